/- l20SigOf: two loops, each appends. -/
import Derived.Test.YteccjnnhihbdhabDraw1
namespace Go.Proofs.Yteccjnnhihbdhab
open Go.RowKit
set_option linter.unusedVariables false

def SigOfPost (g p : Nat) (sorts : Int) (ops : Nat) (w : World) (e : Ending) (w' : World) : Prop :=
  ∃ (v : Value) (s : MSig) (q : Nat), e = .returned v ∧ OSig w' w.heap.size v s ∧ s.sorts = sorts ∧ s.ops.length ≤ ops ∧ RRd w' g q ∧ q ≤ p + 1 + 4 * ops ∧ w.grownBy w' (some g)
def SigInv (w wr : World) (g : Nat) (sorts : Int) (K k Q : Nat) : Prop :=
  ∃ u rows q, SigAt w wr g sorts u rows q ∧ rows.length + k = K ∧ q + 4 * k ≤ Q
def RowInv (wo wj : World) (g : Nat) (b c : Value) (Q : Nat) : Prop :=
  ∃ row q, ∃ j : Int, c = .int .i64 j ∧ -1 ≤ j ∧ j ≤ 2 ∧ row.length + (j + 1).toNat ≤ 3 ∧ RowAt wo wo wj g b row q ∧ q + (j + 1).toNat ≤ Q

theorem sig_start (w w1 : World) {g p : Nat} {sorts : Int} (hgl : g < w.heap.size) (hr : RRd w1 g (p + 1))
    (hg : ((w.alloc (.cells #[.int .i64 0, .slice none 0 0] 35)).alloc (.cells #[.int .i64 sorts, .slice none 0 0] 35)).grownBy w1 (some g)) : SigAt w w1 g sorts (.slice none 0 0) [] (p + 1) := by
  refine ⟨gr_at hg (by omega) ?_, gr_at hg (by omega) ?_, ORows.nil _ _, hr, gr_trans (gr_alloc (gr_alloc (gr_refl w g) _) _) hg (fun x hx => by injection hx with hx; exact .inl hx.symm), hgl⟩
  · exact (congrArg (fun i => (((w.alloc (.cells #[.int .i64 0, .slice none 0 0] 35)).alloc (.cells #[.int .i64 sorts, .slice none 0 0] 35)).heap[i]?)) (by simp)).trans (heap_alloc_new (w.alloc (.cells #[.int .i64 0, .slice none 0 0] 35)) (.cells #[.int .i64 sorts, .slice none 0 0] 35))
  · rw [heap_alloc_old _ _ (by simp)]
    exact heap_alloc_new w _

theorem own_past {w w' : World} {B g : Nat} {e : TypeId} {size n : Nat} {v : Value} {zs : List Value} (h : w.ownsRow B e size v n zs) (hg : w.grownBy w' (some g)) (hB : g < B) : w'.ownsRow B e size v n zs :=
  own_grown h hg (by
    cases hb : v.ownBlock with
    | none => exact .inl rfl
    | some k => right; intro e; injection e with e; have := (own_lt h k hb).1; omega)

/-- behind the draw of the row's length -/
theorem row_start (wr w1 : World) {g q : Nat} (hgl : g < wr.heap.size) (hr : RRd w1 g q) (c2 : Array Value)
    (hg : ((wr.alloc (.cells #[] 3)).alloc (.cells c2 3)).grownBy w1 (some g)) : RowAt wr wr w1 g (.slice (some ⟨wr.heap.size, 0, none⟩) 0 0) [] q ∧ w1.heap[wr.heap.size + 1]? = some (.cells c2 3 (0, 0)) := by
  refine ⟨⟨?_, hr, gr_trans (gr_alloc (gr_alloc (gr_refl wr g) _) _) hg (fun x hx => by injection hx with hx; exact .inl hx.symm)⟩, gr_at hg (by omega) ?_⟩
  · refine own_grown (w := ((wr.alloc (.cells #[] 3)).alloc (.cells c2 3))) (World.ownsRow.alloc ?_ _) hg (.inr (by simp [Value.ownBlock]; omega))
    exact World.ownsRow_lit wr #[] 0 (Nat.le_refl _) (Nat.zero_le _) rfl
  · exact (congrArg (fun i => (((wr.alloc (.cells #[] 3)).alloc (.cells c2 3)).heap[i]?)) (by simp)).trans (heap_alloc_new (wr.alloc (.cells #[] 3)) (.cells c2 3))

/-- behind 's.Ops = append(s.Ops, row)' -/
theorem sig_push {w wo wj w1 : World} {g : Nat} {sorts : Int} {u v' rv : Value} {rows : List (List Int)} {row : List Int} {q q0 : Nat} {us : List Value} (h : SigAt w wo g sorts u rows q0) (hrow : RowAt wo wo wj g rv row q)
    (h1 : wo.ownsRow (w.heap.size + 2) 25 1 u rows.length us) (h2 : us.length = rows.length)
    (h3 : ∀ (j : Nat) (u : Value) (row : List Int), us[j]? = some u → rows[j]? = some row → OInts wo (w.heap.size + 2) u row) (h4 : ∀ (i j : Nat) (u u' : Value), i < j → us[i]? = some u → us[j]? = some u' → u.ownBlock = none ∨ u.ownBlock ≠ u'.ownBlock)
    (hwo : w.heap.size + 2 ≤ wo.heap.size) (hv' : w1.ownsRow (w.heap.size + 2) 25 1 v' (rows.length + 1) (us ++ [rv])) (hg1 : (wj.alloc (.cells #[rv] 25)).grownBy w1 u.ownBlock) :
    SigAt w (w1.setCell ⟨w.heap.size + 1, 1, none⟩ v') g sorts v' (rows ++ [row]) q := by
  have hgl := h.gl
  have hub : ∀ k, u.ownBlock = some k → w.heap.size + 2 ≤ k := fun k e => (own_lt h1 k e).1
  have hng : ∀ {e : TypeId} {size n B : Nat} {x : Value} {zs : List Value}, wo.ownsRow B e size x n zs → w.heap.size ≤ B → wj.ownsRow B e size x n zs := fun {e size n B x zs} hx hB =>
    own_grown hx hrow.gr (by
      cases hb : x.ownBlock with
      | none => exact .inl rfl
      | some k => right; intro e; injection e with e; have := (own_lt hx k hb).1; omega)
  have hb2 : Below wj.heap.size wj (wj.alloc (.cells #[rv] 25)) := below_alloc _ _
  have loc1 : w1.heap[w.heap.size + 1]? = some (.cells #[.int .i64 sorts, u] 35 (0, 0)) := by
    have l1 := gr_at hrow.gr (by omega) h.loc
    exact (hg1.block _ (by simp; have := (Array.getElem?_eq_some_iff.1 l1).1; omega) (fun e => by have := hub _ e.symm; omega)).trans ((heap_alloc_old _ _ (Array.getElem?_eq_some_iff.1 l1).1).trans l1)
  have res1 : w1.heap[w.heap.size]? = some (.cells #[.int .i64 0, .slice none 0 0] 35 (0, 0)) := by
    have l1 := gr_at hrow.gr (by omega) h.res
    exact (hg1.block _ (by simp; have := (Array.getElem?_eq_some_iff.1 l1).1; omega) (fun e => by have := hub _ e.symm; omega)).trans ((heap_alloc_old _ _ (Array.getElem?_eq_some_iff.1 l1).1).trans l1)
  have own1 : ORows w1 (w.heap.size + 2) v' (rows ++ [row]) := by
    refine ORows.push (w := wj.alloc (.cells #[rv] 25)) ((hng h1 (by omega)).alloc _) h2 (fun j x r a b => World.ownsRow.alloc (hng (h3 j x r a b) (by omega)) _) h4 (World.ownsRow.alloc (OInts.base hrow.own hwo) _) (fun i x hx => ?_) hg1 hv'
    have hi : i < us.length := (List.getElem?_eq_some_iff.1 hx).1
    have hxo := h3 i x rows[i] hx (List.getElem?_eq_getElem (by omega))
    cases hb : x.ownBlock with
    | none => exact .inl rfl
    | some k =>
      right
      intro e
      have a := (own_lt hxo k hb).2
      have b := (own_lt hrow.own k e.symm).1
      omega
  have gr1 : w.grownBy w1 (some g) := by
    refine gr_trans (gr_alloc (gr_trans h.gr hrow.gr (fun x e => by injection e with e; exact .inl e.symm)) _) hg1 (fun k e => .inr (by have := hub k e; omega))
  have rd1 : RRd w1 g q := (hrow.rd.keep hb2).grown hg1 (fun k e => by have := hub k e; omega)
  have hset : ∀ {e : TypeId} {size n B : Nat} {x : Value} {zs : List Value}, w1.ownsRow B e size x n zs → w.heap.size + 2 ≤ B → (w1.setCell ⟨w.heap.size + 1, 1, none⟩ v').ownsRow B e size x n zs := fun {e size n B x zs} hx hB => ownsRow_setCell_below hx (by show w.heap.size + 1 < B; omega) _
  refine ⟨block_set loc1 1 v', block_set_ne res1 _ _ (by omega), ?_, rd1.setCell (by omega) _, gr_setCell gr1 (.inr (by show w.heap.size ≤ w.heap.size + 1; omega)) _, hgl⟩
  obtain ⟨us', a1, a2, a3, a4⟩ := own1
  exact ⟨us', hset a1 (Nat.le_refl _), a2, fun j x r a b => hset (a3 j x r a b) (Nat.le_refl _), a4⟩

theorem ORows.setLow {w : World} {B b : Nat} {v : Value} {rows : List (List Int)} (h : ORows w B v rows) (hb : b < B) (i : Nat) (x : Value) : ORows (w.setCell ⟨b, i, none⟩ x) B v rows := by
  obtain ⟨us, a1, a2, a3, a4⟩ := h
  exact ⟨us, ownsRow_setCell_below a1 hb _, a2, fun j u r a b => ownsRow_setCell_below (a3 j u r a b) hb _, a4⟩
/-- the result is written -/
theorem sig_done {w wo : World} {g q : Nat} {sorts : Int} {u : Value} {rows : List (List Int)} (h : SigAt w wo g sorts u rows q) :
    let w3 := (wo.setCell ⟨w.heap.size, 0, none⟩ (.int .i64 sorts)).setCell ⟨w.heap.size, 1, none⟩ u
    w3.heap[w.heap.size]? = some (.cells #[.int .i64 sorts, u] 35 (0, 0)) ∧ ORows w3 (w.heap.size + 2) u rows ∧ RRd w3 g q ∧ w.grownBy w3 (some g) := by
  intro w3
  have hgl := h.gl
  refine ⟨?_, (h.own.setLow (by omega) _ _).setLow (by omega) _ _, (h.rd.setCell (by omega) _).setCell (by omega) _, gr_setCell (gr_setCell h.gr (.inr (Nat.le_refl _)) _) (.inr (Nat.le_refl _)) _⟩
  exact block_set (block_set h.res 0 _) 1 u

theorem sig_loc {wj w1 : World} {b : Nat} {o o' : Obj} {u : Value} (hloc : wj.heap[b]? = some o) (hg1 : (wj.alloc o').grownBy w1 u.ownBlock) (hub : ∀ k, u.ownBlock = some k → b < k) : w1.heap[b]? = some o := by
  have hlt := (Array.getElem?_eq_some_iff.1 hloc).1
  exact (hg1.block b (by simp; omega) (fun e => by have := hub b e.symm; omega)).trans ((heap_alloc_old _ _ hlt).trans hloc)

set_option maxHeartbeats 800000 in
set_option maxRecDepth 100000 in
theorem sigOf_any (g p ops : Nat) (sorts : Int) (w : World) (h : RRd w g p) (hp : p ≤ 100000000) (hops : ops ≤ 1000) :
    Calls Try.prog 87 #[.pointer (some ⟨g, 0, none⟩), .int .i64 sorts, .int .i64 ops] w (SigOfPost g p sorts ops w) := by
  have H := Lib.hid h
  have hgl := h.lt
  clear h
  obtain ⟨i0, hi, hz0, hz1, hz2⟩ := info_parts Try.info_int
  obtain ⟨i1, hj, hy0, hy1, hy2⟩ := info_parts Try.info_ints
  have HR0 := Lib.hid (H.out.keep (w' := (w.alloc (.cells #[.int .i64 0, .slice none 0 0] 35)).alloc (.cells #[.int .i64 sorts, .slice none 0 0] 35)) ((below_alloc _ _).alloc (by simp) _))
  go_enter Try.func87, Try.ntmps87
  go_wp2_with fail
  refine (pick_any g p _ _ HR0.out (by omega)).mono ?_
  rintro e w1 ⟨x, rfl, hx, hr, hg⟩
  have hx := hx.2 (by omega)
  obtain ⟨K, rfl⟩ := Int.eq_ofNat_of_zero_le hx.1
  have hK : K ≤ ops := by omega
  have HI : Hid (SigInv w w1 g sorts K K (p + 1 + 4 * K)) := ⟨_, _, _, sig_start w w1 hgl hr hg, by simp, by omega⟩
  clear hx hr hg
  go_wp2
  go_loopw [8, 9, 10] (fun a b c wr => ∃ k : Nat, a = .int .i64 k ∧ k ≤ K ∧ SigInv w wr g sorts K k (p + 1 + 4 * K)) (fun a _ _ _ => (intOf a).toNat)
  case atStart => exact ⟨K, rfl, Nat.le_refl _, HI.out⟩
  case round =>
    obtain ⟨k, rfl, hk, hinv⟩ := hrel
    have HV := Lib.hid hinv
    clear hinv
    obtain ⟨wo, rfl⟩ : ∃ wo : World, wo = wr := ⟨_, rfl⟩
    obtain ⟨u, rows, q, hat, hrl, hq⟩ := HV.out
    obtain ⟨us0, hu0, -⟩ := hat.own
    obtain ⟨Au, cu, rfl, -⟩ := own_reads hu0
    clear hu0
    have HAT := Lib.hid hat
    have HRL := Lib.hid hrl
    have hwl : w.heap.size + 2 ≤ wo.heap.size := by have := (Array.getElem?_eq_some_iff.1 hat.loc).1; omega
    have hgo : g < wo.heap.size := by omega
    clear hat hrl HV HI
    by_cases hk0 : 0 < k
    · have HRD := Lib.hid (HAT.out.rd.keep (w' := (wo.alloc (.cells #[] 3)).alloc (.cells #[.int .i64 0, .int .i64 0, .int .i64 1, .int .i64 1, .int .i64 2, .int .i64 2] 3)) ((below_alloc _ _).alloc (by simp) _))
      go_wp2_with fail
      refine (pick_any g q _ _ HRD.out (by omega)).mono ?_
      rintro e w2 ⟨x, rfl, hx, hr, hg⟩
      have hx := hx.2 (by omega)
      obtain ⟨hrow, hlit⟩ := row_start wo w2 hgo hr _ hg
      obtain ⟨y, rfl⟩ := Int.eq_ofNat_of_zero_le hx.1
      have hy6 : y < 6 := by omega
      obtain ⟨j0, hj0, hj1, hcell⟩ : ∃ j0 : Int, 0 ≤ j0 ∧ j0 ≤ 2 ∧ w2.cell? ⟨wo.heap.size + 1, y, none⟩ = some (.int .i64 j0) := by
        rw [block_cell hlit]
        match y, hy6 with
        | 0, _ => exact ⟨0, by omega, by omega, rfl⟩
        | 1, _ => exact ⟨0, by omega, by omega, rfl⟩
        | 2, _ => exact ⟨1, by omega, by omega, rfl⟩
        | 3, _ => exact ⟨1, by omega, by omega, rfl⟩
        | 4, _ => exact ⟨2, by omega, by omega, rfl⟩
        | 5, _ => exact ⟨2, by omega, by omega, rfl⟩
      have HROW := Lib.hid hrow
      clear hr hg hrow hlit hx HRD
      go_wp2
      go_loopw [9, 10] (fun b c wj => RowInv wo wj g b c (q + 4)) (fun _ c _ => (intOf c + 1).toNat)
      case atStart => exact ⟨[], q + 1, j0, rfl, by omega, hj1, by simp; omega, HROW.out, by omega⟩
      case round =>
        obtain ⟨row, q2, j, rfl, hj2, hj3, hlen, hrowAt, hq2⟩ := hrel
        obtain ⟨A9, c9, rfl, -⟩ := own_reads hrowAt.own
        have HROWJ := Lib.hid hrowAt
        clear hrowAt
        by_cases hjj : 0 ≤ j
        · obtain ⟨wj, rfl⟩ : ∃ wj : World, wj = wr := ⟨_, rfl⟩
          go_wp2_with fail
          refine (pick_any g q2 _ _ HROWJ.out.rd (by omega)).mono ?_
          rintro e w3 ⟨x, rfl, -, hr, hg⟩
          have HR3 := Lib.hid hr
          have HG3 := Lib.hid hg
          clear hr hg
          have hown3 := own_past HROWJ.out.own HG3.out hgo
          go_wp2_with (at_builtin; refine wpList_append_own _ rfl _ _ 25 rfl wo.heap.size 3 i0 (.int .i64 0) 1 8 Try.underlying25 hi hz0 hz1 hz2 rfl (by decide) _ _ _ rfl (hown3.alloc _) ⟨w3.heap.size, 0, none⟩ 1 1 [.int .i64 x] rfl rfl ?c1 ?c2 ?c3 ?c4 ?c5 ?_)
          case c1 =>
            intro j u hj
            match j, hj with
            | 0, hj => simp at hj; subst hj; simp [Addr.add]
          case c2 => intro u hu; simp at hu; subst hu; rfl
          case c3 => unfold maxLen; omega
          case c4 => omega
          case c5 => have := HROWJ.out.gr.size; have := HG3.out.size; simp; omega
          intro v' w4 hown4 hgrow4 _
          have HN := Lib.hid (info_append wj w4 wo HROWJ.out hgo HG3.out HR3.out hown4 hgrow4)
          clear hown3 hown4 hgrow4
          go_wp2
          go_roundw
          case rel => exact ⟨row ++ [x], q2 + 1, j - 1, rfl, by omega, by omega, by simp; omega, HN.out, by omega⟩
          case measure => simp [intOf]; omega
        · have hjm : j = -1 := by omega
          have HJ := Lib.hid hjm
          clear hjm
          obtain ⟨wj, rfl⟩ : ∃ wj : World, wj = wr := ⟨_, rfl⟩
          obtain ⟨us, h1, h2, h3, h4⟩ := HAT.out.own
          have H1 := Lib.hid h1
          have H2 := Lib.hid h2
          have H3 := Lib.hid h3
          have H4 := Lib.hid h4
          clear h1 h2 h3 h4
          have hloc := gr_at HROWJ.out.gr (by omega) HAT.out.loc
          have f1 := block_cell hloc 1
          simp at f1
          have f2 := block_free hloc 1
          have hbW : w.heap.size + 1 < wj.heap.size := by have := HROWJ.out.gr.size; omega
          have f3 : (wj.alloc (.cells #[.slice A9 row.length c9] 25)).cell? ⟨wj.heap.size, 0, none⟩ = some (.slice A9 row.length c9) := by
            rw [World.cell?_alloc_at _ _ _ _ rfl]; rfl
          have hownU := (own_past H1.out HROWJ.out.gr (by omega)).alloc (.cells #[.slice A9 row.length c9] 25)
          go_wp2_with (at_builtin; refine wpList_append_own _ rfl _ _ 22 rfl (w.heap.size + 2) 25 i1 (.slice none 0 0) 1 24 Try.underlying22 hj hy0 hy1 hy2 rfl (by decide) _ _ _ rfl hownU ⟨wj.heap.size, 0, none⟩ 1 1 [.slice A9 row.length c9] rfl rfl ?c1 ?c2 ?c3 ?c4 ?c5 ?_)
          case c2 => first | rfl | (intro u hu; simp at hu; subst hu; rfl)
          case c3 => unfold maxLen; have := HRL.out; omega
          case c4 => have := HRL.out; omega
          case c5 => first | omega | (simp; omega)
          intro v' w4 hown4 hgrow4 _
          have HN := Lib.hid (sig_push HAT.out HROWJ.out H1.out H2.out H3.out H4.out hwl hown4 hgrow4)
          have hloc4 := sig_loc hloc hgrow4 (fun k e => by have := (own_lt H1.out k e).1; omega)
          have e1 := block_cell hloc4 1
          simp at e1
          have e2 := block_free hloc4 1
          obtain ⟨A4, c4, rfl, -⟩ := own_reads hown4
          clear hloc hloc4 hown4 hgrow4 hownU f1 f2 f3
          go_wp2
          go_roundw
          case rel => exact ⟨k - 1, by go_num, by omega, _, _, _, HN.out, by have := HRL.out; simp; omega, by have := HJ.out; omega⟩
          case measure => simp [intOf]; omega
    · have hl := block_cell HAT.out.loc
      have hl0 := hl 0
      have hl1 := hl 1
      simp at hl0 hl1
      have hr0 := block_cell HAT.out.res 0
      have hr1 := block_cell HAT.out.res 1
      have hr2 := block_free HAT.out.res 0
      have hr3 := block_free HAT.out.res 1
      simp at hr0 hr1
      clear hl
      go_wp2
      obtain ⟨d1, d2, d3, d4⟩ := sig_done HAT.out
      generalize (wo.setCell ⟨w.heap.size, 0, none⟩ (.int .i64 sorts)).setCell ⟨w.heap.size, 1, none⟩ (.slice Au rows.length cu) = w9 at d1 d2 d3 d4
      have k0 := block_cell d1 0
      have k1 := block_cell d1 1
      simp at k0 k1
      refine bodyPost_ret (v := .agg #[.int .i64 sorts, .slice Au rows.length cu]) (by simp [results, Try.results87, go_sem, k0, k1]) rfl ?_
      exact ⟨_, ⟨sorts, rows⟩, q, rfl, ⟨_, rfl, d2.base (by omega)⟩, rfl, by have := HRL.out; simp; omega, d3, by omega, d4⟩
end Go.Proofs.Yteccjnnhihbdhab
