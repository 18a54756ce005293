/- l20Sig: a signature, one in n not valid. -/
import Derived.Test.YteccjnnhihbdhabDraw2
namespace Go.Proofs.Yteccjnnhihbdhab
open Go.RowKit
set_option linter.unusedVariables false

theorem rows_push {wo wj w1 : World} {g B S : Nat} {u v' rv : Value} {rows : List (List Int)} {row : List Int} {us : List Value}
    (h1 : wo.ownsRow B 25 1 u rows.length us) (h2 : us.length = rows.length)
    (h3 : ∀ (j : Nat) (u : Value) (row : List Int), us[j]? = some u → rows[j]? = some row → OInts wo B u row) (h4 : ∀ (i j : Nat) (u u' : Value), i < j → us[i]? = some u → us[j]? = some u' → u.ownBlock = none ∨ u.ownBlock ≠ u'.ownBlock)
    (hgr : wo.grownBy wj (some g)) (hgB : g < B) (hS : wo.heap.size ≤ S) (hBS : B ≤ S) (hrow : OInts wj S rv row)
    (hv' : w1.ownsRow B 25 1 v' (rows.length + 1) (us ++ [rv])) (hg1 : (wj.alloc (.cells #[rv] 25)).grownBy w1 u.ownBlock) : ORows w1 B v' (rows ++ [row]) := by
  refine ORows.push (w := wj.alloc (.cells #[rv] 25)) ((own_past h1 hgr hgB).alloc _) h2 (fun j x r a b => World.ownsRow.alloc (own_past (h3 j x r a b) hgr hgB) _) h4 (World.ownsRow.alloc (OInts.base hrow hBS) _) (fun i x hx => ?_) hg1 hv'
  have hi : i < us.length := (List.getElem?_eq_some_iff.1 hx).1
  have hxo := h3 i x rows[i] hx (List.getElem?_eq_getElem (by omega))
  cases hb : x.ownBlock with
  | none => exact .inl rfl
  | some k =>
    right
    intro e
    have a := (own_lt hxo k hb).2
    have b := (own_lt hrow k e.symm).1
    omega

theorem new_one {w : World} {b : Nat} {x : Value} (h : w.cell? ⟨b, 0, none⟩ = some x) : ∀ (j : Nat) (u : Value), [x][j]? = some u → w.cell? ((⟨b, 0, none⟩ : Addr).add j) = some u := by
  intro j u hj
  match j, hj with
  | 0, hj => simp at hj; subst hj; simpa [Addr.add] using h

def SigPost (g p : Nat) (w : World) (e : Ending) (w' : World) : Prop :=
  ∃ (v : Value) (s : MSig) (q : Nat), e = .returned v ∧ OSig w' w.heap.size v s ∧ s.ops.length ≤ 5 ∧ RRd w' g q ∧ q ≤ p + 30 ∧ w.grownBy w' (some g)

/-- inside l20Sig, behind l20SigOf: block b is the result's, block b5 the local signature's -/
structure LocAt (w wr : World) (g b5 : Nat) (sorts : Int) (u : Value) (rows : List (List Int)) (q : Nat) : Prop where
  loc : wr.heap[b5]? = some (.cells #[.int .i64 sorts, u] 35 (0, 0))
  res : wr.heap[w.heap.size]? = some (.cells #[.int .i64 0, .slice none 0 0] 35 (0, 0))
  own : ORows wr (w.heap.size + 1) u rows
  rd : RRd wr g q
  gr : w.grownBy wr (some g)
  gl : g < w.heap.size
  bl : w.heap.size < b5

theorem LocAt.later {w wr w2 : World} {g b5 : Nat} {sorts : Int} {u : Value} {rows : List (List Int)} {q q' : Nat} (h : LocAt w wr g b5 sorts u rows q) (hg : wr.grownBy w2 (some g)) (hr : RRd w2 g q') : LocAt w w2 g b5 sorts u rows q' :=
  ⟨gr_at hg (by have := h.gl; have := h.bl; omega) h.loc, gr_at hg (by have := h.gl; omega) h.res, h.own.grown hg (fun k e => by injection e with e; have := h.gl; omega), hr, gr_trans h.gr hg (fun x e => by injection e with e; exact .inl e.symm), h.gl, h.bl⟩

theorem loc_start {w w4 : World} {g q : Nat} {v u : Value} {s : MSig} (hv : v = .agg #[.int .i64 s.sorts, u]) (ho : ORows w4 (w.alloc (.cells #[.int .i64 0, .slice none 0 0] 35)).heap.size u s.ops) (hr : RRd w4 g q) (hgl : g < w.heap.size)
    (hg : (w.alloc (.cells #[.int .i64 0, .slice none 0 0] 35)).grownBy w4 (some g)) :
    LocAt w (w4.alloc (.cells #[.int .i64 s.sorts, u] 35)) g w4.heap.size s.sorts u s.ops q := by
  have hsz := hg.size
  simp at hsz ho
  have hb := below_alloc w4 (.cells #[.int .i64 s.sorts, u] 35)
  refine ⟨heap_alloc_new w4 _, ?_, ho.keep hb, hr.keep hb, gr_alloc (gr_trans (gr_alloc (gr_refl w g) _) hg (fun x e => by injection e with e; exact .inl e.symm)) _, hgl, by omega⟩
  rw [heap_alloc_old _ _ (by omega)]
  exact gr_at hg (by omega) (heap_alloc_new w _)

theorem loc_pushed {w w6 w7 : World} {g b5 q : Nat} {sorts : Int} {u rv : Value} {rows : List (List Int)} (h : LocAt w w6 g b5 sorts u rows q) (hlow : ∀ k, u.ownBlock = some k → k < b5) (o : Obj) (hg1 : ((w6.alloc o).alloc (.cells #[rv] 25)).grownBy w7 u.ownBlock) :
    w7.heap[b5]? = some (.cells #[.int .i64 sorts, u] 35 (0, 0)) ∧ w7.heap[w.heap.size]? = some (.cells #[.int .i64 0, .slice none 0 0] 35 (0, 0)) ∧ RRd w7 g q ∧ w.grownBy w7 (some g) := by
  have hgl := h.gl
  have hbl := h.bl
  have hub : ∀ k, u.ownBlock = some k → w.heap.size + 1 ≤ k := fun k e => by obtain ⟨us, h1, -⟩ := h.own; exact (own_lt h1 k e).1
  have hb2 : Below w6.heap.size w6 ((w6.alloc o).alloc (.cells #[rv] 25)) := (below_alloc _ _).alloc (by simp) _
  have at_ : ∀ {k : Nat} {c : Obj}, w6.heap[k]? = some c → (∀ j, u.ownBlock = some j → j ≠ k) → w7.heap[k]? = some c := fun {k c} hc hn => by
    have hlt := (Array.getElem?_eq_some_iff.1 hc).1
    exact (hg1.block k (by simp; omega) (fun e => hn k e.symm rfl)).trans ((hb2.block k hlt).trans hc)
  refine ⟨at_ h.loc (fun j e => by have := hlow j e; omega), at_ h.res (fun j e => by have := hub j e; omega), (h.rd.keep hb2).grown hg1 (fun k e => by have := hub k e; omega), ?_⟩
  exact gr_trans (gr_alloc (gr_alloc h.gr o) _) hg1 (fun k e => .inr (by have := hub k e; omega))

theorem loc_push {w w6 w7 : World} {g b5 q : Nat} {sorts : Int} {u rv v' : Value} {rows rows' : List (List Int)} (h : LocAt w w6 g b5 sorts u rows q) (hlow : ∀ k, u.ownBlock = some k → k < b5) (o : Obj) (hg1 : ((w6.alloc o).alloc (.cells #[rv] 25)).grownBy w7 u.ownBlock)
    (ho : ORows w7 (w.heap.size + 1) v' rows') (hv : ∀ k, v'.ownBlock = some k → k ≠ b5) (hin : ∀ (B : Nat) (x : Value) (xs : List Int), OInts w7 B x xs → x.ownBlock ≠ some b5) : LocAt w (w7.setCell ⟨b5, 1, none⟩ v') g b5 sorts v' rows' q := by
  obtain ⟨l1, l2, l3, l4⟩ := loc_pushed h hlow o hg1
  have hgl := h.gl
  have hbl := h.bl
  refine ⟨block_set l1 1 v', block_set_ne l2 _ _ (by omega), ?_, l3.setCell (by omega) _, gr_setCell l4 (.inr (by show w.heap.size ≤ b5; omega)) _, hgl, hbl⟩
  obtain ⟨us, a1, a2, a3, a4⟩ := ho
  have hset : ∀ {e : TypeId} {size n B : Nat} {x : Value} {zs : List Value}, w7.ownsRow B e size x n zs → x.ownBlock ≠ some b5 → (w7.setCell ⟨b5, 1, none⟩ v').ownsRow B e size x n zs := fun {e size n B x zs} hx hB => by
    have hgb : w7.grownBy (w7.setCell ⟨b5, 1, none⟩ v') (some b5) := ⟨rfl, rfl, rfl, by simp [World.setCell], fun i _ hne => Below.heap_setCell w7 ⟨b5, 1, none⟩ v' i (by rintro rfl; exact hne rfl)⟩
    exact own_grown hx hgb (.inr hB)
  exact ⟨us, hset a1 (fun e => hv _ e rfl), a2, fun j x r a b => hset (a3 j x r a b) (hin _ x r (a3 j x r a b)), a4⟩
/-- no row lies in a block of another element type -/
theorem own_not {w : World} {B b : Nat} {e t : TypeId} {size n : Nat} {v : Value} {zs : List Value} {cs : Array Value} (h : w.ownsRow B e size v n zs) (hb : w.heap[b]? = some (.cells cs t (0, 0))) (hne : e ≠ t) : v.ownBlock ≠ some b := by
  rcases h.2 with ⟨rfl, _⟩ | ⟨g, cap, cur, rfl, hg, hh, r⟩
  · simp [Value.ownBlock]
  · intro he
    simp [Value.ownBlock] at he
    subst he
    rw [hh] at hb
    injection hb with hb
    injection hb with _ ht
    exact hne ht

/-- the result is written, from the local one -/
theorem loc_done {w wo : World} {g q b5 : Nat} {sorts : Int} {u : Value} {rows : List (List Int)} (h : LocAt w wo g b5 sorts u rows q) :
    let w3 := (wo.setCell ⟨w.heap.size, 0, none⟩ (.int .i64 sorts)).setCell ⟨w.heap.size, 1, none⟩ u
    w3.heap[w.heap.size]? = some (.cells #[.int .i64 sorts, u] 35 (0, 0)) ∧ ORows w3 (w.heap.size + 1) u rows ∧ RRd w3 g q ∧ w.grownBy w3 (some g) := by
  intro w3
  have hgl := h.gl
  refine ⟨?_, (h.own.setLow (by omega) _ _).setLow (by omega) _ _, (h.rd.setCell (by omega) _).setCell (by omega) _, gr_setCell (gr_setCell h.gr (.inr (Nat.le_refl _)) _) (.inr (Nat.le_refl _)) _⟩
  exact block_set (block_set h.res 0 _) 1 u

set_option maxHeartbeats 1600000 in
set_option maxRecDepth 100000 in
theorem sig_any (g p : Nat) (n : Int) (w : World) (h : RRd w g p) (hp : p ≤ 10000000) (hn : 0 ≤ n) (hn2 : n ≤ 1000000) :
    Calls Try.prog 78 #[.pointer (some ⟨g, 0, none⟩), .int .i64 n] w (SigPost g p w) := by
  have H := Lib.hid h
  have hgl := h.lt
  clear h
  obtain ⟨i1, hj, hy0, hy1, hy2⟩ := info_parts Try.info_ints
  have HR0 := Lib.hid (H.out.keep (w' := (w.alloc (.cells #[.int .i64 0, .slice none 0 0] 35))) (below_alloc _ _))
  go_enter Try.func78, Try.ntmps78
  go_wp2_with fail
  refine (pick_any g p _ _ HR0.out (by omega)).mono ?_
  rintro e w1 ⟨x1, rfl, hx1, hr1, hg1⟩
  have hx1 := hx1.2 (by omega)
  have HR1 := Lib.hid hr1
  have HG1 := Lib.hid hg1
  clear hr1 hg1
  go_wp2_with fail
  refine (pick_any g (p + 1) _ _ HR1.out (by omega)).mono ?_
  rintro e w2 ⟨x2, rfl, hx2, hr2, hg2⟩
  have hx2 := hx2.2 (by omega)
  have HR2 := Lib.hid hr2
  have HG2 := Lib.hid hg2
  clear hr2 hg2
  go_wp2_with fail
  refine (sigOf_any g (p + 1 + 1) 4 _ _ HR2.out (by omega) (by omega)).mono ?_
  rintro e w4 ⟨v, s, q4, rfl, ⟨u, hv, ho⟩, hs1, hs2, hr4, hq4, hg4⟩
  have hu := ho
  obtain ⟨us0, hu0, -⟩ := hu
  have HLOW := Lib.hid (fun k e => (own_lt hu0 k e).2)
  obtain ⟨Au, cu, rfl, -⟩ := own_reads hu0
  clear hu0
  subst hv
  obtain ⟨sorts, rows⟩ := s
  simp only at hs1 hs2 ho
  clear hx1 hx2 hs1
  have hlow : w2.heap.size ≤ w4.heap.size := hg4.size
  have hw2 : w.heap.size + 1 ≤ w2.heap.size := by have := HG1.out.size; have := HG2.out.size; simp at *; omega
  have HL1 := Lib.hid (loc_start (w := w) (w4 := w4) (g := g) (q := q4) (s := ⟨sorts, rows⟩) rfl (ho.base (by simp; omega)) hr4 hgl (gr_trans (gr_trans HG1.out HG2.out (fun x e => by injection e with e; exact .inl e.symm)) hg4 (fun x e => by injection e with e; exact .inl e.symm)))
  clear ho hr4 hg4 HR1 HR2 HR0
  simp only at HL1
  go_wp2_with fail
  refine (odd_any g q4 _ _ HL1.out.rd (by omega) hn hn2).mono ?_
  rintro e w5 ⟨b, q5, rfl, hr5, hq5, hg5⟩
  have HL2 := Lib.hid (HL1.out.later hg5 hr5)
  have HG5 := Lib.hid hg5
  clear hr5 hg5
  cases b with
  | false =>
    have hl := block_cell HL2.out.loc
    have hl0 := hl 0
    have hl1 := hl 1
    simp at hl0 hl1
    have hr0 := block_cell HL2.out.res 0
    have hr1 := block_cell HL2.out.res 1
    have hr2 := block_free HL2.out.res 0
    have hr3 := block_free HL2.out.res 1
    simp at hr0 hr1
    clear hl
    go_wp2
    obtain ⟨d1, d2, d3, d4⟩ := loc_done HL2.out
    generalize (w5.setCell ⟨w.heap.size, 0, none⟩ (.int .i64 sorts)).setCell ⟨w.heap.size, 1, none⟩ (.slice Au rows.length cu) = w9 at d1 d2 d3 d4
    have k0 := block_cell d1 0
    have k1 := block_cell d1 1
    simp at k0 k1
    refine bodyPost_ret (v := .agg #[.int .i64 sorts, .slice Au rows.length cu]) (by simp [results, Try.results78, go_sem, k0, k1]) rfl ?_
    exact ⟨_, ⟨sorts, rows⟩, _, rfl, ⟨_, rfl, d2.base (by omega)⟩, by simp only; omega, d3, by omega, d4⟩
  | true =>
    go_wp2_with fail
    refine (pick_any g q5 _ _ HL2.out.rd (by omega)).mono ?_
    rintro e w6 ⟨x6, rfl, hx6, hr6, hg6⟩
    have hx6 := hx6.2 (by omega)
    have HL3 := Lib.hid (HL2.out.later hg6 hr6)
    have HG6 := Lib.hid hg6
    clear hr6 hg6
    by_cases k0 : x6 = 0
    · subst k0
      have hr0 := block_cell HL3.out.res 0
      have hr1 := block_cell HL3.out.res 1
      have hr2 := block_free HL3.out.res 0
      have hr3 := block_free HL3.out.res 1
      simp at hr0 hr1
      go_wp2
      have hgl' := HL3.out.gl
      have d1 := block_set (block_set HL3.out.res 0 (.int .i64 0)) 1 (.slice none 0 0)
      have d3 := (HL3.out.rd.setCell (b := w.heap.size) (i := 0) (by omega) (.int .i64 0)).setCell (b := w.heap.size) (i := 1) (by omega) (.slice none 0 0)
      have d4 := gr_setCell (p := ⟨w.heap.size, 1, none⟩) (gr_setCell (p := ⟨w.heap.size, 0, none⟩) HL3.out.gr (.inr (Nat.le_refl _)) (.int .i64 0)) (.inr (Nat.le_refl _)) (.slice none 0 0)
      generalize (w6.setCell ⟨w.heap.size, 0, none⟩ (.int .i64 0)).setCell ⟨w.heap.size, 1, none⟩ (.slice none 0 0) = w9 at d1 d3 d4
      have k0 := block_cell d1 0
      have k1 := block_cell d1 1
      simp at k0 k1
      refine bodyPost_ret (v := .agg #[.int .i64 0, .slice none 0 0]) (by simp [results, Try.results78, go_sem, k0, k1]) rfl ?_
      exact ⟨_, ⟨0, []⟩, _, rfl, ⟨_, rfl, ORows.nil _ _⟩, by simp, d3, by omega, d4⟩
    by_cases k1 : x6 = 1
    · subst k1
      have hloc := HL3.out.loc
      have f0 := block_cell hloc 0
      have f1 := block_cell hloc 1
      have f2 := block_free hloc 1
      simp at f0 f1
      have hb5 := (Array.getElem?_eq_some_iff.1 hloc).1
      have hrow : OInts (w6.alloc (.cells #[.int .i64 sorts] 3)) w6.heap.size (.slice (some ⟨w6.heap.size, 0, none⟩) 1 1) [sorts] := World.ownsRow_lit w6 #[.int .i64 sorts] 1 (Nat.le_refl _) (by unfold maxLen; omega) rfl
      have HROW := Lib.hid hrow
      obtain ⟨us, h1, h2, h3, h4⟩ := HL1.out.own
      have H1 := Lib.hid h1
      have H2 := Lib.hid h2
      have H3 := Lib.hid h3
      have H4 := Lib.hid h4
      clear h1 h2 h3 h4 hrow
      have hgr6 := gr_alloc (gr_trans HG5.out HG6.out (fun x e => by injection e with e; exact .inl e.symm)) (.cells #[.int .i64 sorts] 3)
      have HGR := Lib.hid hgr6
      clear hgr6
      have hownU := (own_past H1.out HGR.out (by omega)).alloc (.cells #[.slice (some ⟨w6.heap.size, 0, none⟩) 1 1] 25)
      have f3 : ((w6.alloc (.cells #[.int .i64 sorts] 3)).alloc (.cells #[.slice (some ⟨w6.heap.size, 0, none⟩) 1 1] 25)).cell? ⟨w6.heap.size + 1, 0, none⟩ = some (.slice (some ⟨w6.heap.size, 0, none⟩) 1 1) := by
        rw [World.cell?_alloc_at _ _ _ _ (by simp)]; rfl
      go_wp2_with (at_builtin; refine wpList_append_own _ rfl _ _ 22 rfl (w.heap.size + 1) 25 i1 (.slice none 0 0) 1 24 Try.underlying22 hj hy0 hy1 hy2 rfl (by decide) _ _ _ rfl hownU ⟨w6.heap.size + 1, 0, none⟩ 1 1 [.slice (some ⟨w6.heap.size, 0, none⟩) 1 1] rfl rfl ?c1 ?c2 ?c3 ?c4 ?c5 ?_)
      any_goals first
        | exact new_one f3
        | (unfold maxLen; omega)
        | omega
        | (simp; omega)
        | (intro u hu; simp at hu; subst hu; rfl)
        | rfl
      intro v' w7 hown7 hgrow7 _
      have HO7 := Lib.hid (rows_push H1.out H2.out H3.out H4.out HGR.out (by omega) (by have := HG5.out.size; have := HG6.out.size; omega) (by omega) HROW.out hown7 hgrow7)
      obtain ⟨hloc7, hres7, -, -⟩ := loc_pushed HL3.out HLOW.out (.cells #[.int .i64 sorts] 3) hgrow7
      have HL7 := Lib.hid (loc_push HL3.out HLOW.out (.cells #[.int .i64 sorts] 3) hgrow7 HO7.out (fun k e => by rintro rfl; exact own_not hown7 hloc7 (by decide) e) (fun B x xs h => own_not h hloc7 (by decide)))
      obtain ⟨A7, c7, rfl, -⟩ := own_reads hown7
      have e0 := block_cell hloc7 0
      have e1 := block_cell hloc7 1
      have e2 := block_free hloc7 1
      have e3 := block_cell hres7 0
      have e4 := block_cell hres7 1
      have e5 := block_free hres7 0
      have e6 := block_free hres7 1
      simp at e0 e1 e3 e4
      clear f0 f1 f2 f3 hloc hloc7 hres7 hownU hown7 hgrow7
      go_wp2
      obtain ⟨d1, d2, d3, d4⟩ := loc_done HL7.out
      generalize ((w7.setCell ⟨w4.heap.size, 1, none⟩ (.slice A7 (rows.length + 1) c7)).setCell ⟨w.heap.size, 0, none⟩ (.int .i64 sorts)).setCell ⟨w.heap.size, 1, none⟩ (.slice A7 (rows.length + 1) c7) = w9 at d1 d2 d3 d4 ⊢
      have k0 := block_cell d1 0
      have k1 := block_cell d1 1
      simp at k0 k1
      refine bodyPost_ret (v := .agg #[.int .i64 sorts, .slice A7 (rows.length + 1) c7]) (by simp [results, Try.results78, go_sem, k0, k1]) rfl ?_
      exact ⟨_, ⟨sorts, rows ++ [[sorts]]⟩, _, rfl, ⟨_, rfl, d2.base (by omega)⟩, by simp; omega, d3, by omega, d4⟩
    by_cases k2 : x6 = 2
    · subst k2
      have hloc := HL3.out.loc
      have f0 := block_cell hloc 0
      have f1 := block_cell hloc 1
      have f2 := block_free hloc 1
      simp at f0 f1
      have hb5 := (Array.getElem?_eq_some_iff.1 hloc).1
      have hrow : OInts (w6.alloc (.cells #[] 3)) w6.heap.size (.slice (some ⟨w6.heap.size, 0, none⟩) 0 0) [] := World.ownsRow_lit w6 #[] 0 (Nat.le_refl _) (by unfold maxLen; omega) rfl
      have HROW := Lib.hid hrow
      obtain ⟨us, h1, h2, h3, h4⟩ := HL1.out.own
      have H1 := Lib.hid h1
      have H2 := Lib.hid h2
      have H3 := Lib.hid h3
      have H4 := Lib.hid h4
      clear h1 h2 h3 h4 hrow
      have hgr6 := gr_alloc (gr_trans HG5.out HG6.out (fun x e => by injection e with e; exact .inl e.symm)) (.cells #[] 3)
      have HGR := Lib.hid hgr6
      clear hgr6
      have hownU := (own_past H1.out HGR.out (by omega)).alloc (.cells #[.slice (some ⟨w6.heap.size, 0, none⟩) 0 0] 25)
      have f3 : ((w6.alloc (.cells #[] 3)).alloc (.cells #[.slice (some ⟨w6.heap.size, 0, none⟩) 0 0] 25)).cell? ⟨w6.heap.size + 1, 0, none⟩ = some (.slice (some ⟨w6.heap.size, 0, none⟩) 0 0) := by
        rw [World.cell?_alloc_at _ _ _ _ (by simp)]; rfl
      go_wp2_with (at_builtin; refine wpList_append_own _ rfl _ _ 22 rfl (w.heap.size + 1) 25 i1 (.slice none 0 0) 1 24 Try.underlying22 hj hy0 hy1 hy2 rfl (by decide) _ _ _ rfl hownU ⟨w6.heap.size + 1, 0, none⟩ 1 1 [.slice (some ⟨w6.heap.size, 0, none⟩) 0 0] rfl rfl ?d1 ?d2 ?d3 ?d4 ?d5 ?_)
      any_goals first
        | exact new_one f3
        | (unfold maxLen; omega)
        | omega
        | (simp; omega)
        | (intro u hu; simp at hu; subst hu; rfl)
        | rfl
      intro v' w7 hown7 hgrow7 _
      have HO7 := Lib.hid (rows_push H1.out H2.out H3.out H4.out HGR.out (by omega) (by have := HG5.out.size; have := HG6.out.size; omega) (by omega) HROW.out hown7 hgrow7)
      obtain ⟨hloc7, hres7, -, -⟩ := loc_pushed HL3.out HLOW.out (.cells #[] 3) hgrow7
      have HL7 := Lib.hid (loc_push HL3.out HLOW.out (.cells #[] 3) hgrow7 HO7.out (fun k e => by rintro rfl; exact own_not hown7 hloc7 (by decide) e) (fun B x xs h => own_not h hloc7 (by decide)))
      obtain ⟨A7, c7, rfl, -⟩ := own_reads hown7
      have e0 := block_cell hloc7 0
      have e1 := block_cell hloc7 1
      have e2 := block_free hloc7 1
      have e3 := block_cell hres7 0
      have e4 := block_cell hres7 1
      have e5 := block_free hres7 0
      have e6 := block_free hres7 1
      simp at e0 e1 e3 e4
      clear f0 f1 f2 f3 hloc hloc7 hres7 hownU hown7 hgrow7
      go_wp2
      obtain ⟨d1, d2, d3, d4⟩ := loc_done HL7.out
      generalize ((w7.setCell ⟨w4.heap.size, 1, none⟩ (.slice A7 (rows.length + 1) c7)).setCell ⟨w.heap.size, 0, none⟩ (.int .i64 sorts)).setCell ⟨w.heap.size, 1, none⟩ (.slice A7 (rows.length + 1) c7) = w9 at d1 d2 d3 d4 ⊢
      have k0 := block_cell d1 0
      have k1 := block_cell d1 1
      simp at k0 k1
      refine bodyPost_ret (v := .agg #[.int .i64 sorts, .slice A7 (rows.length + 1) c7]) (by simp [results, Try.results78, go_sem, k0, k1]) rfl ?_
      exact ⟨_, ⟨sorts, rows ++ [[]]⟩, _, rfl, ⟨_, rfl, d2.base (by omega)⟩, by simp; omega, d3, by omega, d4⟩
    · have e0' : (x6 == 0) = false := by rw [beq_eq_false_iff_ne]; exact k0
      have e1' : (x6 == 1) = false := by rw [beq_eq_false_iff_ne]; exact k1
      have e2' : (x6 == 2) = false := by rw [beq_eq_false_iff_ne]; exact k2
      have hloc := HL3.out.loc
      have f0 := block_cell hloc 0
      have f1 := block_cell hloc 1
      have f2 := block_free hloc 1
      simp at f0 f1
      have hb5 := (Array.getElem?_eq_some_iff.1 hloc).1
      have hrow : OInts (w6.alloc (.cells #[.int .i64 0, .int .i64 0, .int .i64 0, .int .i64 0] 3)) w6.heap.size (.slice (some ⟨w6.heap.size, 0, none⟩) 4 4) [0, 0, 0, 0] := World.ownsRow_lit w6 #[.int .i64 0, .int .i64 0, .int .i64 0, .int .i64 0] 4 (Nat.le_refl _) (by unfold maxLen; omega) rfl
      have HROW := Lib.hid hrow
      obtain ⟨us, h1, h2, h3, h4⟩ := HL1.out.own
      have H1 := Lib.hid h1
      have H2 := Lib.hid h2
      have H3 := Lib.hid h3
      have H4 := Lib.hid h4
      clear h1 h2 h3 h4 hrow
      have hgr6 := gr_alloc (gr_trans HG5.out HG6.out (fun x e => by injection e with e; exact .inl e.symm)) (.cells #[.int .i64 0, .int .i64 0, .int .i64 0, .int .i64 0] 3)
      have HGR := Lib.hid hgr6
      clear hgr6
      have hownU := (own_past H1.out HGR.out (by omega)).alloc (.cells #[.slice (some ⟨w6.heap.size, 0, none⟩) 4 4] 25)
      have f3 : ((w6.alloc (.cells #[.int .i64 0, .int .i64 0, .int .i64 0, .int .i64 0] 3)).alloc (.cells #[.slice (some ⟨w6.heap.size, 0, none⟩) 4 4] 25)).cell? ⟨w6.heap.size + 1, 0, none⟩ = some (.slice (some ⟨w6.heap.size, 0, none⟩) 4 4) := by
        rw [World.cell?_alloc_at _ _ _ _ (by simp)]; rfl
      go_wp2_with (at_builtin; refine wpList_append_own _ rfl _ _ 22 rfl (w.heap.size + 1) 25 i1 (.slice none 0 0) 1 24 Try.underlying22 hj hy0 hy1 hy2 rfl (by decide) _ _ _ rfl hownU ⟨w6.heap.size + 1, 0, none⟩ 1 1 [.slice (some ⟨w6.heap.size, 0, none⟩) 4 4] rfl rfl ?e1 ?e2 ?e3 ?e4 ?e5 ?_)
      any_goals first
        | exact new_one f3
        | (unfold maxLen; omega)
        | omega
        | (simp; omega)
        | (intro u hu; simp at hu; subst hu; rfl)
        | rfl
      intro v' w7 hown7 hgrow7 _
      have HO7 := Lib.hid (rows_push H1.out H2.out H3.out H4.out HGR.out (by omega) (by have := HG5.out.size; have := HG6.out.size; omega) (by omega) HROW.out hown7 hgrow7)
      obtain ⟨hloc7, hres7, -, -⟩ := loc_pushed HL3.out HLOW.out (.cells #[.int .i64 0, .int .i64 0, .int .i64 0, .int .i64 0] 3) hgrow7
      have HL7 := Lib.hid (loc_push HL3.out HLOW.out (.cells #[.int .i64 0, .int .i64 0, .int .i64 0, .int .i64 0] 3) hgrow7 HO7.out (fun k e => by rintro rfl; exact own_not hown7 hloc7 (by decide) e) (fun B x xs h => own_not h hloc7 (by decide)))
      obtain ⟨A7, c7, rfl, -⟩ := own_reads hown7
      have e0 := block_cell hloc7 0
      have e1 := block_cell hloc7 1
      have e2 := block_free hloc7 1
      have e3 := block_cell hres7 0
      have e4 := block_cell hres7 1
      have e5 := block_free hres7 0
      have e6 := block_free hres7 1
      simp at e0 e1 e3 e4
      clear f0 f1 f2 f3 hloc hloc7 hres7 hownU hown7 hgrow7
      go_wp2
      obtain ⟨d1, d2, d3, d4⟩ := loc_done HL7.out
      generalize ((w7.setCell ⟨w4.heap.size, 1, none⟩ (.slice A7 (rows.length + 1) c7)).setCell ⟨w.heap.size, 0, none⟩ (.int .i64 sorts)).setCell ⟨w.heap.size, 1, none⟩ (.slice A7 (rows.length + 1) c7) = w9 at d1 d2 d3 d4 ⊢
      have k0 := block_cell d1 0
      have k1 := block_cell d1 1
      simp at k0 k1
      refine bodyPost_ret (v := .agg #[.int .i64 sorts, .slice A7 (rows.length + 1) c7]) (by simp [results, Try.results78, go_sem, k0, k1]) rfl ?_
      exact ⟨_, ⟨sorts, rows ++ [[0, 0, 0, 0]]⟩, _, rfl, ⟨_, rfl, d2.base (by omega)⟩, by simp; omega, d3, by omega, d4⟩
end Go.Proofs.Yteccjnnhihbdhab
