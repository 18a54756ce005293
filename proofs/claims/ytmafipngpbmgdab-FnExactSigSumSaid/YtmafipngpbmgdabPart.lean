/- SigPart of both packages. -/
import Derived.Test.YtmafipngpbmgdabTakes2
import Derived.Deep.RegionLaw
namespace Go.Proofs.Ytmafipngpbmgdab
open Go.RowKit
set_option linter.unusedVariables false

def partM (s : MSig) (k : Int) : MSig := if validB s && (decide (1 ≤ k) && decide (k ≤ s.sorts)) then ⟨k, s.ops.filter fun row => belowB row k⟩ else ⟨0, []⟩

/-- inside SigPart: block w.heap.size is the result's, block b5 the local signature's -/
structure LocB (w wr : World) (b5 : Nat) (sorts : Int) (u : Value) (rows : List (List Int)) : Prop where
  loc : wr.heap[b5]? = some (.cells #[.int .i64 sorts, u] 27 (0, 0))
  res : wr.heap[w.heap.size]? = some (.cells #[.int .i64 0, .slice none 0 0] 27 (0, 0))
  own : ORows wr (b5 + 1) u rows
  bel : Below w.heap.size w wr
  bl : w.heap.size < b5
theorem LocB.keep {w wr w2 : World} {b5 : Nat} {sorts : Int} {u : Value} {rows : List (List Int)} (h : LocB w wr b5 sorts u rows) (hb : Below wr.heap.size wr w2) : LocB w w2 b5 sorts u rows :=
  ⟨(hb.block _ (Array.getElem?_eq_some_iff.1 h.loc).1).trans h.loc, (hb.block _ (Array.getElem?_eq_some_iff.1 h.res).1).trans h.res, h.own.keep hb, h.bel.trans (hb.mono h.bel.size), h.bl⟩
theorem LocB.sz {w wr : World} {b5 : Nat} {sorts : Int} {u : Value} {rows : List (List Int)} (h : LocB w wr b5 sorts u rows) : b5 < wr.heap.size := (Array.getElem?_eq_some_iff.1 h.loc).1
theorem LocB.start {w w1 : World} {sorts : Int} (hb : Below (w.heap.size + 1) (w.alloc (.cells #[.int .i64 0, .slice none 0 0] 27)) w1) : LocB w (w1.alloc (.cells #[.int .i64 sorts, .slice none 0 0] 27)) w1.heap.size sorts (.slice none 0 0) [] := by
  have hs := hb.size
  simp at hs
  refine ⟨heap_alloc_new w1 _, ?_, ORows.nil _ _, ?_, by omega⟩
  · rw [heap_alloc_old _ _ (by omega)]
    exact (hb.block _ (by omega)).trans (heap_alloc_new w _)
  · exact ((below_alloc w _).trans (hb.mono (by omega))).trans ((below_alloc w1 _).mono (by omega))
/-- one row more: w6: ahead of the append's one-place slice; rv: the new row, in a block of its own -/
theorem LocB.push {w wr w6 w7 : World} {b5 : Nat} {sorts : Int} {u v' rv : Value} {rows : List (List Int)} {row : List Int} {us : List Value} (h : LocB w wr b5 sorts u rows) (hb : Below wr.heap.size wr w6) (hr : OInts w6 wr.heap.size rv row)
    (h1 : wr.ownsRow (b5 + 1) 31 1 u rows.length us) (h2 : us.length = rows.length)
    (h3 : ∀ (j : Nat) (u : Value) (row : List Int), us[j]? = some u → rows[j]? = some row → OInts wr (b5 + 1) u row) (h4 : ∀ (i j : Nat) (u u' : Value), i < j → us[i]? = some u → us[j]? = some u' → u.ownBlock = none ∨ u.ownBlock ≠ u'.ownBlock)
    (hv' : w7.ownsRow (b5 + 1) 31 1 v' (rows.length + 1) (us ++ [rv])) (hg : (w6.alloc (.cells #[rv] 31)).grownBy w7 u.ownBlock) :
    LocB w (w7.setCell ⟨b5, 1, none⟩ v') b5 sorts v' (rows ++ [row]) ∧ w7.heap[b5]? = some (.cells #[.int .i64 sorts, u] 27 (0, 0)) := by
  have hsz := h.sz
  have hbl := h.bl
  have h6 := h.keep hb
  have hub : ∀ k, u.ownBlock = some k → b5 < k := fun k e => by have := (own_lt h1 k e).1; omega
  have at7 : ∀ {k : Nat} {o : Obj}, w6.heap[k]? = some o → k ≤ b5 → w7.heap[k]? = some o := fun {k o} hk hle => by
    have hlt := (Array.getElem?_eq_some_iff.1 hk).1
    exact (hg.block k (by simp; omega) (fun e => by have := hub k e.symm; omega)).trans ((heap_alloc_old _ _ hlt).trans hk)
  have loc7 := at7 h6.loc (Nat.le_refl _)
  have res7 := at7 h6.res (by omega)
  have own7 : ORows w7 (b5 + 1) v' (rows ++ [row]) := by
    refine ORows.push (w := w6.alloc (.cells #[rv] 31)) ((own_keep h1 hb).alloc _) h2 (fun j x r a b => World.ownsRow.alloc (own_keep (h3 j x r a b) hb) _) h4 (World.ownsRow.alloc (OInts.base hr (by omega)) _) (fun i x hx => ?_) hg hv'
    have hi : i < us.length := (List.getElem?_eq_some_iff.1 hx).1
    have hxo := h3 i x rows[i] hx (List.getElem?_eq_getElem (by omega))
    cases hbx : x.ownBlock with
    | none => exact .inl rfl
    | some k =>
      right
      intro e
      have a := (own_lt hxo k hbx).2
      have b := (own_lt hr k e.symm).1
      omega
  refine ⟨⟨blk_set loc7 1 v', ?_, own7.setLow' (by omega) 1 v', ?_, hbl⟩, loc7⟩
  · exact (Below.heap_setCell w7 ⟨b5, 1, none⟩ v' w.heap.size (by show w.heap.size ≠ b5; omega)).trans res7
  · refine Below.setCell ((h6.bel.alloc (h6.bel.size) _).grown hg (by have := h6.bel.size; simp; omega) (fun k e => by have := hub k e; omega)) (by show w.heap.size ≤ b5; omega) _
theorem LocB.done {w wo : World} {b5 : Nat} {sorts : Int} {u : Value} {rows : List (List Int)} (h : LocB w wo b5 sorts u rows) :
    let w3 := (wo.setCell ⟨w.heap.size, 0, none⟩ (.int .i64 sorts)).setCell ⟨w.heap.size, 1, none⟩ u
    w3.heap[w.heap.size]? = some (.cells #[.int .i64 sorts, u] 27 (0, 0)) ∧ ORows w3 (b5 + 1) u rows ∧ Below w.heap.size w w3 := by
  intro w3
  have hbl := h.bl
  exact ⟨blk_set (blk_set h.res 0 _) 1 u, (h.own.setLow' (by omega) _ _).setLow' (by omega) _ _, (h.bel.setCell (Nat.le_refl _) _).setCell (Nat.le_refl _) _⟩

theorem filter_take {p : List Int → Bool} {xs : List (List Int)} {k : Nat} (hk : k < xs.length) : (xs.take (k + 1)).filter p = (xs.take k).filter p ++ (if p xs[k] then [xs[k]] else []) := by
  rw [List.take_succ_eq_append_getElem hk, List.filter_append]
  congr 1
  by_cases h : p xs[k] <;> simp [h]
theorem filter_take_le {p : List Int → Bool} {xs : List (List Int)} {k : Nat} : ((xs.take k).filter p).length ≤ xs.length := Nat.le_trans (List.length_filter_le _ _) (by rw [List.length_take]; omega)

theorem news_one (w : World) (x : Value) (t : TypeId) : ∀ (j : Nat) (u : Value), [x][j]? = some u → (w.alloc (.cells #[x] t)).cell? ((⟨w.heap.size, 0, none⟩ : Addr).add j) = some u := by
  intro j u hj
  match j, hj with
  | 0, hj =>
    simp at hj
    subst hj
    rw [show (⟨w.heap.size, 0, none⟩ : Addr).add 0 = ⟨w.heap.size, 0, none⟩ from rfl, World.cell?_alloc_at _ _ _ _ rfl]
    rfl
theorem rows_one {A : Option Addr} {n c : Nat} (x : Value) (hx : x = .slice A n c := by rfl) : ∀ u ∈ [x], u.oneCell' = true := by
  intro u hu; simp at hu; subst hu; subst hx; rfl

/-- the zero value is written into the result: w: ahead of the call; its box, then its result -/
theorem zero_back {w w1 : World} {a b : Value} {t : TypeId} (hb : Below ((w.alloc (.cells #[a, b] t)).alloc (.cells #[.int .i64 0, .slice none 0 0] 27)).heap.size ((w.alloc (.cells #[a, b] t)).alloc (.cells #[.int .i64 0, .slice none 0 0] 27)) w1) :
    (w1.cell? ⟨w.heap.size + 1, 0, none⟩ = some (.int .i64 0) ∧ w1.cell? ⟨w.heap.size + 1, 1, none⟩ = some (.slice none 0 0) ∧ w1.frozen? ⟨w.heap.size + 1, 0, none⟩ = false ∧ w1.frozen? ⟨w.heap.size + 1, 1, none⟩ = false) ∧
    ((w1.setCell ⟨w.heap.size + 1, 0, none⟩ (.int .i64 0)).setCell ⟨w.heap.size + 1, 1, none⟩ (.slice none 0 0)).heap[w.heap.size + 1]? = some (.cells #[.int .i64 0, .slice none 0 0] 27 (0, 0)) ∧
    Below w.heap.size w ((w1.setCell ⟨w.heap.size + 1, 0, none⟩ (.int .i64 0)).setCell ⟨w.heap.size + 1, 1, none⟩ (.slice none 0 0)) := by
  have hr : w1.heap[w.heap.size + 1]? = some (.cells #[.int .i64 0, .slice none 0 0] 27 (0, 0)) := by
    refine (hb.block _ (by simp)).trans ?_
    exact (congrArg (fun i => ((w.alloc (.cells #[a, b] t)).alloc (.cells #[.int .i64 0, .slice none 0 0] 27)).heap[i]?) (by simp)).trans (heap_alloc_new (w.alloc (.cells #[a, b] t)) _)
  refine ⟨⟨blk_cell hr 0, blk_cell hr 1, blk_free hr 0, blk_free hr 1⟩, blk_set (blk_set hr 0 _) 1 _, ?_⟩
  have h1 : Below w.heap.size w w1 := ((below_alloc w _).alloc (by simp) _).trans (hb.mono (by simp; omega))
  exact (h1.setCell (p := ⟨w.heap.size + 1, 0, none⟩) (by show w.heap.size ≤ w.heap.size + 1; omega) _).setCell (p := ⟨w.heap.size + 1, 1, none⟩) (by show w.heap.size ≤ w.heap.size + 1; omega) _

def PartPost (s : MSig) (w : World) (e : Ending) (w' : World) : Prop := ∃ u, e = .returned u ∧ OSig w' w.heap.size u s ∧ Below w.heap.size w w'

set_option maxHeartbeats 1600000 in
set_option maxRecDepth 100000 in
theorem sigPart_any (v : Value) (s : MSig) (k : Int) (w : World) (h : RSig w v s) :
    Calls Try.prog 25 #[v, .int .i64 k] w (PartPost (partM s k) w) := by
  obtain ⟨u, rfl, hr⟩ := h
  obtain ⟨sorts, ops⟩ := s
  have hn := hr.len
  obtain ⟨A, c, rfl, -⟩ := hr.form
  have hbW := below_alloc w (.cells #[.int .i64 sorts, .slice A ops.length c] 27)
  have hb2 := below_alloc (w.alloc (.cells #[.int .i64 sorts, .slice A ops.length c] 27)) (.cells #[.int .i64 0, .slice none 0 0] 27)
  have HBW := Lib.hid hbW
  have H := Lib.hid hr
  have HB2 := Lib.hid (hbW.trans (hb2.mono (by simp)))
  have hbx := Lib.hid (And.intro (cell_keep hb2 (box_cells w (.int .i64 sorts) (.slice A ops.length c) 27).1) (cell_keep hb2 (box_cells w (.int .i64 sorts) (.slice A ops.length c) 27).2))
  clear hr hbW hb2
  obtain ⟨i1, hj, hy0, hy1, hy2⟩ := info_parts Try.tinfo_ints
  cases hv : validB ⟨sorts, ops⟩ && (decide (1 ≤ k) && decide (k ≤ sorts)) with
  | false =>
    have HPM := Lib.hid (show partM ⟨sorts, ops⟩ k = ⟨0, []⟩ by unfold partM; rw [if_neg (by rw [hv]; simp)])
    cases hv2 : validB ⟨sorts, ops⟩ with
    | false =>
      have HV := Lib.hid hv2
      clear hv hv2
      go_enter Try.func25, Try.ntmps25
      go_wp2_with fail
      refine (sigValid_any _ ⟨sorts, ops⟩ _ ⟨_, rfl, H.out.keep HB2.out⟩).mono ?_
      rw [HV.out]
      rintro e w1 ⟨rfl, hb⟩
      have HZB := Lib.hid (zero_back hb)
      obtain ⟨r0, r1, r2, r3⟩ := HZB.out.1
      clear hb
      go_wp2
      obtain ⟨d1, d3⟩ := HZB.out.2
      generalize (w1.setCell ⟨w.heap.size + 1, 0, none⟩ (.int .i64 0)).setCell ⟨w.heap.size + 1, 1, none⟩ (.slice none 0 0) = w9 at d1 d3 ⊢
      have k0 := blk_cell d1 0
      have k1 := blk_cell d1 1
      simp at k0 k1
      refine bodyPost_ret (v := .agg #[.int .i64 0, .slice none 0 0]) (by simp [results, Try.results25, go_sem, k0, k1]) rfl ?_
      refine ⟨_, rfl, ?_, d3⟩
      rw [HPM.out]
      exact ⟨_, rfl, ORows.nil _ _⟩
    | true =>
      have HV := Lib.hid hv2
      have hk : k < 1 ∨ (1 ≤ k ∧ sorts < k) := by rw [hv2] at hv; simp at hv; omega
      clear hv hv2
      rcases hk with hk | ⟨hk, hk2⟩
      all_goals
        go_enter Try.func25, Try.ntmps25
        go_wp2_with fail
        refine (sigValid_any _ ⟨sorts, ops⟩ _ ⟨_, rfl, H.out.keep HB2.out⟩).mono ?_
        rw [HV.out]
        rintro e w1 ⟨rfl, hb⟩
        have f0 := cell_keep hb hbx.out.1
        have HZB := Lib.hid (zero_back hb)
        obtain ⟨r0, r1, r2, r3⟩ := HZB.out.1
        clear hb
        go_wp2
        obtain ⟨d1, d3⟩ := HZB.out.2
        generalize (w1.setCell ⟨w.heap.size + 1, 0, none⟩ (.int .i64 0)).setCell ⟨w.heap.size + 1, 1, none⟩ (.slice none 0 0) = w9 at d1 d3 ⊢
        have k0 := blk_cell d1 0
        have k1 := blk_cell d1 1
        simp at k0 k1
        refine bodyPost_ret (v := .agg #[.int .i64 0, .slice none 0 0]) (by simp [results, Try.results25, go_sem, k0, k1]) rfl ?_
        refine ⟨_, rfl, ?_, d3⟩
        rw [HPM.out]
        exact ⟨_, rfl, ORows.nil _ _⟩
  | true =>
    have HPM := Lib.hid (show partM ⟨sorts, ops⟩ k = ⟨k, ops.filter fun row => belowB row k⟩ by unfold partM; rw [hv]; rfl)
    simp only [Bool.and_eq_true, decide_eq_true_eq] at hv
    have hvs := valid_sorts hv.1
    simp only at hvs
    have HROW := Lib.hid (fun (j : Nat) (hj : j < ops.length) => valid_row (s := ⟨sorts, ops⟩) hv.1 hj)
    have HV := Lib.hid hv.1
    have hk1 := hv.2.1
    have hk2 := hv.2.2
    clear hv
    go_enter Try.func25, Try.ntmps25
    go_wp2_with fail
    refine (sigValid_any _ ⟨sorts, ops⟩ _ ⟨_, rfl, H.out.keep HB2.out⟩).mono ?_
    rw [HV.out]
    rintro e w1 ⟨rfl, hb⟩
    have f0 := cell_keep hb hbx.out.1
    have f1 := cell_keep hb hbx.out.2
    have HB := Lib.hid hb
    have hz1 := hb.size
    simp at hz1
    have hz2 : w.heap.size < w1.heap.size := by omega
    clear hb
    go_wp2
    have HL0 := Lib.hid (LocB.start (w := w.alloc (.cells #[.int .i64 sorts, .slice A ops.length c] 27)) (w1 := w1) (sorts := k) (HB.out.mono (by simp)))
    go_loopw [7, 27] (fun a i wr => ∃ j : Nat, ∃ u, j ≤ ops.length ∧ i = .int .i64 j ∧ LocB (w.alloc (.cells #[.int .i64 sorts, .slice A ops.length c] 27)) wr w1.heap.size k u ((ops.take j).filter fun row => belowB row k)) (fun _ i _ => ops.length - (intOf i).toNat)
    case atStart => exact ⟨0, _, Nat.zero_le _, rfl, HL0.out⟩
    case round =>
      obtain ⟨j, u, hjn, rfl, hl⟩ := hrel
      have HL := Lib.hid hl
      clear hl HL0
      obtain ⟨us, hu1, hu2, hu3, hu4⟩ := HL.out.own
      obtain ⟨Au, cu, rfl, -⟩ := own_reads hu1
      have HU1 := Lib.hid hu1
      have HU2 := Lib.hid hu2
      have HU3 := Lib.hid hu3
      have HU4 := Lib.hid hu4
      clear hu1 hu2 hu3 hu4
      have hloc := HL.out.loc
      have l1 := blk_cell hloc 1
      simp at l1
      have hsz := HL.out.sz
      by_cases hlt : j < ops.length
      · have HKR := Lib.hid (H.out.keep (HBW.out.trans (HL.out.bel.mono (by simp))))
        obtain ⟨b, o, c', ur, e, hcell, hri⟩ := HKR.out.at_ hlt
        cases e
        have hvr : 1 ≤ ops[j].length ∧ ops[j].length ≤ 3 ∧ ∀ x ∈ ops[j], 0 ≤ x ∧ x < sorts := HROW.out j hlt
        have HFT := Lib.hid (filter_take (p := fun row => belowB row k) hlt)
        have hfl := filter_take_le (p := fun row => belowB row k) (xs := ops) (k := j)
        generalize ops[j] = row at hri hvr HFT
        have hrl := hvr.2.1
        have HZ := Lib.hid (raised_zero (xs := row) (fun x hx => by have := hvr.2.2 x hx; omega))
        have HI := Lib.hid hri
        obtain ⟨A', c'', rfl, -⟩ := hri.form
        clear hri hvr
        cases hbb : belowB row k with
        | false =>
          have Hbb := Lib.hid hbb
          clear hbb
          go_wp2_with (go_at_call 29; refine (sortsBelow_any _ _ _ _ HI.out).mono ?_; rw [Hbb.out]; rintro e w' ⟨rfl, rfl⟩)
          go_roundw
          case rel => exact ⟨j + 1, _, by omega, by go_num, by rw [show (ops.take (j + 1)).filter (fun row => belowB row k) = (ops.take j).filter (fun row => belowB row k) by rw [HFT.out]; simp [Hbb.out]]; exact HL.out⟩
          case measure => simp [intOf]; omega
        | true =>
          have Hbb := Lib.hid hbb
          clear hbb
          go_wp2_with (go_at_call 29; refine (sortsBelow_any _ _ _ _ HI.out).mono ?_; rw [Hbb.out]; rintro e w' ⟨rfl, rfl⟩)
          have hl7 : ((ops.take j).filter fun row => belowB row k).length + 1 ≤ maxLen ∧ (((ops.take j).filter fun row => belowB row k).length + 1) * 24 ≤ 140737488355328 := by rw [maxLen_eq]; omega
          have HL7 := Lib.hid hl7
          clear hl7
          have HEQ := Lib.hid (show (ops.take (j + 1)).filter (fun row => belowB row k) = (ops.take j).filter (fun row => belowB row k) ++ [row] by rw [HFT.out]; simp [Hbb.out])
          go_region_law (first
            | (go_simp; go_at_call 32; refine (raisedRow_any _ row _ wr.drew HI.out (by omega)).mono ?_; rw [HZ.out]; rintro e w6 ⟨u6, rfl, ho6, -, hb6⟩; obtain ⟨A6, c6, rfl, -⟩ := ho6.reads.form; have HB6 := Lib.hid (show Below wr.heap.size wr w6 from ⟨hb6.os, hb6.tape, hb6.output, hb6.size, hb6.block⟩); have HO6 := Lib.hid (show OInts w6 wr.heap.size (.slice A6 row.length c6) row from ho6); clear ho6 hb6; have HOU := Lib.hid ((own_keep HU1.out HB6.out).alloc (.cells #[.slice A6 row.length c6] 31)); have HN6 := Lib.hid (news_one w6 (.slice A6 row.length c6) 31); have m1 := cell_keep HB6.out l1; have m2 : w1.heap.size < w6.heap.size := World.block_lt_of_cell? w6 _ m1; have HZ6 := Lib.hid (show w1.heap.size + 1 ≤ (w6.alloc (.cells #[.slice A6 row.length c6] 31)).heap.size by have := HB6.out.size; simp; omega))
            | (refine step_append_own rfl (.tmp 35) (.tmp 38) 22 rfl (w1.heap.size + 1) 31 i1 (.slice none 0 0) 1 24 Try.underlying22 hj hy0 hy1 hy2 rfl (by omega) _ _ _ rfl HOU.out ⟨w6.heap.size, 0, none⟩ 1 1 [.slice A6 row.length c6] rfl rfl HN6.out (rows_one _) HL7.out.1 HL7.out.2 HZ6.out ?_; intro v7 w7 hv7 hg7; obtain ⟨A7, c7, rfl, -⟩ := own_reads hv7; have HP := Lib.hid (HL.out.push HB6.out HO6.out HU1.out HU2.out HU3.out HU4.out hv7 hg7); clear hv7 hg7; have q1 := blk_cell HP.out.2 1; have q2 := blk_free HP.out.2 1; simp at q1))
          all_goals
            clear l1 m1 m2 q1 q2 f0 f1
            go_wp2
            go_roundw
            case rel => exact ⟨j + 1, _, by omega, by go_num, by rw [HEQ.out]; exact HP.out.1⟩
            case measure => simp [intOf]; omega
      · have hjn' : j = ops.length := by omega
        have HTA := Lib.hid (show (ops.take j).filter (fun row => belowB row k) = ops.filter (fun row => belowB row k) by rw [take_all (by omega)])
        have hl0 := blk_cell hloc 0
        have hres := HL.out.res
        have r0 := blk_cell hres 0
        have r1 := blk_cell hres 1
        have r2 := blk_free hres 0
        have r3 := blk_free hres 1
        simp at hl0 r0 r1 r2 r3
        clear hjn' f0 f1 hloc hres
        go_wp2
        obtain ⟨d1, d2, d3⟩ := HL.out.done
        rw [show (w.alloc (.cells #[.int .i64 sorts, .slice A ops.length c] 27)).heap.size = w.heap.size + 1 from by simp] at d1 d2 d3
        generalize (wr.setCell ⟨w.heap.size + 1, 0, none⟩ (.int .i64 k)).setCell ⟨w.heap.size + 1, 1, none⟩ (.slice Au ((ops.take j).filter fun row => belowB row k).length cu) = w9 at d1 d2 d3 ⊢
        have k0 := blk_cell d1 0
        have k1 := blk_cell d1 1
        simp at k0 k1
        clear hl0 r0 r1 r2 r3 l1
        refine bodyPost_ret (v := .agg #[.int .i64 k, .slice Au ((ops.take j).filter fun row => belowB row k).length cu]) (by simp [results, Try.results25, go_sem, k0, k1]) rfl ?_
        refine ⟨_, rfl, ?_, HBW.out.trans (d3.mono (by omega))⟩
        rw [HPM.out]
        refine ⟨_, rfl, ?_⟩
        simp only
        rw [← HTA.out]
        exact d2.base (by omega)
end Go.Proofs.Ytmafipngpbmgdab
