/- l1Copy of the spec, and a list of rows that lies below its box. -/
import Derived.Test.YtmafipngpbmgdabSum
import Derived.Test.YtmafipngpbmgdabPart2
namespace Go.Proofs.Ytmafipngpbmgdab
open Go.RowKit
set_option linter.unusedVariables false

/-- one row more; w6: ahead of the append's one-place slice; rv: the new row, in a block of its own -/
theorem ORows.pushNew {wr w6 w7 : World} {B : Nat} {u v' rv : Value} {rows : List (List Int)} {row : List Int} {us : List Value} (hB : B ≤ wr.heap.size) (hb : Below wr.heap.size wr w6) (hr : OInts w6 wr.heap.size rv row)
    (h1 : wr.ownsRow B 31 1 u rows.length us) (h2 : us.length = rows.length)
    (h3 : ∀ (j : Nat) (u : Value) (row : List Int), us[j]? = some u → rows[j]? = some row → OInts wr B u row) (h4 : ∀ (i j : Nat) (u u' : Value), i < j → us[i]? = some u → us[j]? = some u' → u.ownBlock = none ∨ u.ownBlock ≠ u'.ownBlock)
    (hv' : w7.ownsRow B 31 1 v' (rows.length + 1) (us ++ [rv])) (hg : (w6.alloc (.cells #[rv] 31)).grownBy w7 u.ownBlock) : ORows w7 B v' (rows ++ [row]) := by
  refine ORows.push (w := w6.alloc (.cells #[rv] 31)) ((own_keep h1 hb).alloc _) h2 (fun j x r a b => World.ownsRow.alloc (own_keep (h3 j x r a b) hb) _) h4 (World.ownsRow.alloc (OInts.base hr hB) _) (fun i x hx => ?_) hg hv'
  have hi : i < us.length := (List.getElem?_eq_some_iff.1 hx).1
  have hxo := h3 i x rows[i] hx (List.getElem?_eq_getElem (by omega))
  cases hbx : x.ownBlock with
  | none => exact .inl rfl
  | some k =>
    right
    intro e
    have a := (own_lt hxo k hbx).2
    have b := (own_lt hr k e.symm).1
    omega
theorem below_push {w wr w6 w7 : World} {B : Nat} {u rv : Value} {n : Nat} {us : List Value} (hw : Below B w wr) (hB : B ≤ w.heap.size) (hb : Below wr.heap.size wr w6) (h1 : wr.ownsRow B 31 1 u n us)
    (hg : (w6.alloc (.cells #[rv] 31)).grownBy w7 u.ownBlock) : Below B w w7 := by
  have s1 := hw.size
  have s2 := hb.size
  exact ((hw.trans (hb.mono (by omega))).alloc (by omega) _).grown hg (by simp; omega) (fun k e => (own_lt h1 k e).1)
theorem own_emptyR (w : World) : w.alloc (.cells #[] 31) |>.ownsRow w.heap.size 31 1 (.slice (some ⟨w.heap.size, 0, none⟩) 0 0) 0 [] := World.ownsRow_lit w #[] 0 (Nat.le_refl _) (Nat.zero_le _) rfl
theorem ORows.empty (w : World) : ORows (w.alloc (.cells #[] 31)) w.heap.size (.slice (some ⟨w.heap.size, 0, none⟩) 0 0) [] := ⟨[], own_emptyR w, rfl, fun j u row h => by simp at h, fun i j u u' _ h => by simp at h⟩

theorem bel_grow0 {w w2 : World} {o : Obj} {A : Option Addr} {n c : Nat} (h : (w.alloc o).grownBy w2 (Value.slice A n c).ownBlock) (hr : ∀ k, (Value.slice A n c).ownBlock = some k → w.heap.size ≤ k) : Below w.heap.size w w2 :=
  (below_alloc w o).trans ⟨h.os, h.tape, h.output, h.size, fun k hk => h.block k (Nat.lt_of_lt_of_le hk (by simp)) (fun e => by have := hr k e.symm; omega)⟩

set_option maxRecDepth 100000 in
theorem l1Copy_any (v : Value) (rows : List (List Int)) (w : World) (h : RRows w v rows) (hs : rows.length ≤ 1000) (hs2 : ∀ (j : Nat) (hj : j < rows.length), 1 ≤ rows[j].length ∧ rows[j].length ≤ 1000) :
    Calls Try.prog 34 #[v] w fun e w' => ∃ u, e = .returned u ∧ ORows w' w.heap.size u rows ∧ Below w.heap.size w w' := by
  obtain ⟨A, c, rfl, -⟩ := h.form
  have H := Lib.hid h
  have HS2 := Lib.hid hs2
  clear h hs2
  obtain ⟨i0, hi0, hz0, hz1, hz2⟩ := info_parts Try.tinfo_int
  obtain ⟨i1, hj, hy0, hy1, hy2⟩ := info_parts Try.tinfo_ints
  have HE := Lib.hid (ORows.empty w)
  have HB0 := Lib.hid (below_alloc w (.cells #[] 31))
  go_enter Try.func34, Try.ntmps34
  go_wp2
  go_loopw [3, 4] (fun o i wr => ∃ k : Nat, ∃ u, k ≤ rows.length ∧ i = .int .i64 k ∧ u = o ∧ ORows wr w.heap.size u (rows.take k) ∧ Below w.heap.size w wr) (fun _ i _ => rows.length - (intOf i).toNat)
  case atStart => exact ⟨0, _, Nat.zero_le _, rfl, rfl, HE.out, HB0.out⟩
  case round =>
    obtain ⟨k, u, hk, rfl, rfl, ho, hbw⟩ := hrel
    have HBW := Lib.hid hbw
    obtain ⟨us, hu1, hu2, hu3, hu4⟩ := ho
    have hfl : (rows.take k).length = k := by rw [List.length_take]; omega
    have HU1 := Lib.hid hu1
    have HO := Lib.hid (show ORows wr w.heap.size u (rows.take k) from ⟨us, hu1, hu2, hu3, hu4⟩)
    rw [hfl] at hu1
    obtain ⟨Au, cu, rfl, -⟩ := own_reads hu1
    have HUJ := Lib.hid hu1
    have HU2 := Lib.hid hu2
    have HU3 := Lib.hid hu3
    have HU4 := Lib.hid hu4
    have HFL := Lib.hid hfl
    clear hu1 hu2 hu3 hu4 hfl hbw
    by_cases hlt : k < rows.length
    · obtain ⟨b, o, c', ur, e, hcell, hri⟩ := (H.out.keep HBW.out).at_ hlt
      cases e
      have HFT := Lib.hid (List.take_succ_eq_append_getElem hlt)
      have hrl := HS2.out k hlt
      generalize rows[k] = row at hri HFT hrl
      have hr1 := hrl.1
      have hr2 := hrl.2
      clear hrl
      obtain ⟨bx, ox, cx, ex, -⟩ := hri.at_ (k := 0) (by omega)
      subst ex
      obtain ⟨wo, rfl⟩ : ∃ wo : World, wo = wr := ⟨_, rfl⟩
      have HNEWS := Lib.hid (news_any (hri.keep (below_alloc wo (.cells #[] 3))))
      have hA1 := Lib.hid (show (row.map (Value.int .i64)).length = row.length * 1 by simp)
      have hsw : w.heap.size ≤ wo.heap.size := HBW.out.size
      have hlb := World.block_lt_of_cell? wo _ hcell
      clear hri
      go_wp2_with (at_builtin; refine wpList_append_own _ rfl (.tmp 13) (.tmp 17) 31 rfl wo.heap.size 3 i0 (.int .i64 0) 1 8 Try.underlying31 hi0 hz0 hz1 hz2 rfl (by decide) _ 0 [] rfl (own_empty wo) ⟨bx, ox, none⟩ row.length cx (row.map (Value.int .i64)) rfl hA1.out HNEWS.out (ints_one _) (by rw [maxLen_eq]; omega) (by omega) (by simp) ?_)
      intro v6 w6 hv6 hg6 _
      obtain ⟨A6, c6, rfl, -⟩ := own_reads hv6
      have HB6 := Lib.hid (bel_grow0 hg6 (fun k e => by injection e with e; exact Nat.le_of_eq e))
      have HO6 := Lib.hid (show OInts w6 wo.heap.size (.slice A6 row.length c6) row from hv6)
      clear hg6 hv6
      have HOU := Lib.hid ((own_keep HUJ.out HB6.out).alloc (.cells #[.slice A6 row.length c6] 31))
      have HN6 := Lib.hid (news_one w6 (.slice A6 row.length c6) 31)
      have s6 := HB6.out.size
      go_wp2_with (at_builtin; refine wpList_append_own _ rfl (.tmp 12) (.tmp 19) 22 rfl w.heap.size 31 i1 (.slice none 0 0) 1 24 Try.underlying22 hj hy0 hy1 hy2 rfl (by decide) _ _ _ rfl HOU.out ⟨w6.heap.size, 0, none⟩ 1 1 [.slice A6 row.length c6] rfl rfl HN6.out (rows_one _) (by rw [maxLen_eq]; omega) (by omega) (by simp; omega) ?_)
      intro v7 w7 hv7 hg7 _
      have HR7 := Lib.hid (ORows.pushNew hsw HB6.out HO6.out HU1.out HU2.out HU3.out HU4.out (by rw [HFL.out]; exact hv7) hg7)
      have HB7 := Lib.hid (below_push HBW.out (Nat.le_refl _) HB6.out HU1.out hg7)
      obtain ⟨A7, c7, rfl, -⟩ := own_reads hv7
      clear hg7 hv7
      go_wp2
      go_roundw
      case rel => exact ⟨k + 1, _, by omega, by go_num, rfl, by rw [HFT.out]; exact HR7.out, HB7.out⟩
      case measure => simp [intOf]; omega
    · have hjn : k = rows.length := by omega
      subst hjn
      go_wp2
      go_ret
      exact ⟨_, rfl, by have h := HO.out; rwa [take_all (Nat.le_refl _)] at h, HBW.out⟩

/-! the list lies below its box: by its type no row of it is the box -/
theorem own_box {w : World} {B b : Nat} {e : TypeId} {size n : Nat} {v : Value} {zs : List Value} {c : Array Value} {t : TypeId} {f : Nat × Nat} (h : w.ownsRow B e size v n zs) (hb : w.heap[b]? = some (.cells c t f)) (hne : e ≠ t) : v.ownBlock ≠ some b := by
  rcases h.2 with ⟨rfl, _⟩ | ⟨g, cap, cur, rfl, hg, hh, r⟩
  · simp [Value.ownBlock]
  · intro he
    simp [Value.ownBlock] at he
    subst he
    rw [hb] at hh
    injection hh with hh
    injection hh with _ ht
    exact hne ht.symm
theorem own_setBox {w : World} {B b i : Nat} {e : TypeId} {size n : Nat} {v x : Value} {zs : List Value} (h : w.ownsRow B e size v n zs) (hne : v.ownBlock ≠ some b) : (w.setCell ⟨b, i, none⟩ x).ownsRow B e size v n zs := by
  refine ⟨h.1, ?_⟩
  rcases h.2 with h2 | ⟨g, cap, cur, rfl, hg, hh, r⟩
  · exact .inl h2
  · refine .inr ⟨g, cap, cur, rfl, hg, (Below.heap_setCell w ⟨b, i, none⟩ x g (fun e => hne (by show some g = some b; rw [e]))).trans hh, r⟩
theorem ORows.setBox {w : World} {B b i : Nat} {v x : Value} {rows : List (List Int)} {c : Array Value} {f : Nat × Nat} (h : ORows w B v rows) (hb : w.heap[b]? = some (.cells c 27 f)) : ORows (w.setCell ⟨b, i, none⟩ x) B v rows := by
  obtain ⟨us, h1, h2, h3, h4⟩ := h
  exact ⟨us, own_setBox h1 (own_box h1 hb (by decide)), h2, fun j u row a b' => own_setBox (h3 j u row a b') (own_box (h3 j u row a b') hb (by decide)), h4⟩

/-- inside SigSum: block w.heap.size is the result's, block b5 the local signature's, anywhere -/
structure LocC (w wr : World) (b5 : Nat) (sorts : Int) (u : Value) (rows : List (List Int)) : Prop where
  loc : wr.heap[b5]? = some (.cells #[.int .i64 sorts, u] 27 (0, 0))
  res : wr.heap[w.heap.size]? = some (.cells #[.int .i64 0, .slice none 0 0] 27 (0, 0))
  own : ORows wr (w.heap.size + 1) u rows
  bel : Below w.heap.size w wr
  bl : w.heap.size < b5
theorem LocC.sz {w wr : World} {b5 : Nat} {sorts : Int} {u : Value} {rows : List (List Int)} (h : LocC w wr b5 sorts u rows) : b5 < wr.heap.size := (Array.getElem?_eq_some_iff.1 h.loc).1
theorem LocC.keep {w wr w2 : World} {b5 : Nat} {sorts : Int} {u : Value} {rows : List (List Int)} (h : LocC w wr b5 sorts u rows) (hb : Below wr.heap.size wr w2) : LocC w w2 b5 sorts u rows :=
  ⟨(hb.block _ (Array.getElem?_eq_some_iff.1 h.loc).1).trans h.loc, (hb.block _ (Array.getElem?_eq_some_iff.1 h.res).1).trans h.res, h.own.keep hb, h.bel.trans (hb.mono h.bel.size), h.bl⟩
theorem LocC.start {w w1 : World} {sorts : Int} {u : Value} {rows : List (List Int)} (hb : Below (w.heap.size + 1) (w.alloc (.cells #[.int .i64 0, .slice none 0 0] 27)) w1) (ho : ORows w1 (w.heap.size + 1) u rows) : LocC w (w1.alloc (.cells #[.int .i64 sorts, u] 27)) w1.heap.size sorts u rows := by
  have hs := hb.size
  simp at hs
  refine ⟨heap_alloc_new w1 _, ?_, ho.keep (below_alloc w1 _), ?_, by omega⟩
  · rw [heap_alloc_old _ _ (by omega)]
    exact (hb.block _ (by omega)).trans (heap_alloc_new w _)
  · exact ((below_alloc w _).trans (hb.mono (by omega))).trans ((below_alloc w1 _).mono (by omega))
theorem LocC.push {w wr w6 w7 : World} {b5 : Nat} {sorts : Int} {u v' rv : Value} {rows : List (List Int)} {row : List Int} {us : List Value} (h : LocC w wr b5 sorts u rows) (hb : Below wr.heap.size wr w6) (hr : OInts w6 wr.heap.size rv row)
    (h1 : wr.ownsRow (w.heap.size + 1) 31 1 u rows.length us) (h2 : us.length = rows.length)
    (h3 : ∀ (j : Nat) (u : Value) (row : List Int), us[j]? = some u → rows[j]? = some row → OInts wr (w.heap.size + 1) u row) (h4 : ∀ (i j : Nat) (u u' : Value), i < j → us[i]? = some u → us[j]? = some u' → u.ownBlock = none ∨ u.ownBlock ≠ u'.ownBlock)
    (hv' : w7.ownsRow (w.heap.size + 1) 31 1 v' (rows.length + 1) (us ++ [rv])) (hg : (w6.alloc (.cells #[rv] 31)).grownBy w7 u.ownBlock) :
    LocC w (w7.setCell ⟨b5, 1, none⟩ v') b5 sorts v' (rows ++ [row]) ∧ w7.heap[b5]? = some (.cells #[.int .i64 sorts, u] 27 (0, 0)) := by
  have hsz := h.sz
  have hbl := h.bl
  have h6 := h.keep hb
  have hu5 : u.ownBlock ≠ some b5 := own_box h1 h.loc (by decide)
  have hu0 : u.ownBlock ≠ some w.heap.size := own_box h1 h.res (by decide)
  have at7 : ∀ {k : Nat} {o : Obj}, w6.heap[k]? = some o → u.ownBlock ≠ some k → w7.heap[k]? = some o := fun {k o} hk hne => by
    have hlt := (Array.getElem?_eq_some_iff.1 hk).1
    exact (hg.block k (by simp; omega) (fun e => hne e.symm)).trans ((heap_alloc_old _ _ hlt).trans hk)
  have loc7 := at7 h6.loc hu5
  have res7 := at7 h6.res hu0
  have own7 := ORows.pushNew (by omega) hb hr h1 h2 h3 h4 hv' hg
  have bel7 := below_push (h.bel) (Nat.le_refl _) hb (own_base h1 (Nat.le_succ _)) hg
  exact ⟨⟨blk_set loc7 1 v', (Below.heap_setCell w7 ⟨b5, 1, none⟩ v' w.heap.size (by show w.heap.size ≠ b5; omega)).trans res7, own7.setBox loc7, bel7.setCell (by show w.heap.size ≤ b5; omega) _, hbl⟩, loc7⟩
theorem LocC.done {w wo : World} {b5 : Nat} {sorts : Int} {u : Value} {rows : List (List Int)} (h : LocC w wo b5 sorts u rows) :
    let w3 := (wo.setCell ⟨w.heap.size, 0, none⟩ (.int .i64 sorts)).setCell ⟨w.heap.size, 1, none⟩ u
    w3.heap[w.heap.size]? = some (.cells #[.int .i64 sorts, u] 27 (0, 0)) ∧ ORows w3 (w.heap.size + 1) u rows ∧ Below w.heap.size w w3 := by
  intro w3
  exact ⟨blk_set (blk_set h.res 0 _) 1 u, (h.own.setLow' (by omega) _ _).setLow' (by omega) _ _, (h.bel.setCell (Nat.le_refl _) _).setCell (Nat.le_refl _) _⟩
end Go.Proofs.Ytmafipngpbmgdab
