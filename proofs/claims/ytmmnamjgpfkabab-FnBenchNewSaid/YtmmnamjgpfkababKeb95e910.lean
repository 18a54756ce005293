/- The exact laws' measure, copy and comparison of lists of equations: szEqS, toEqS, eqEqS. · The exact laws' measure, copy and comparison of a theory: szTheory, toTheory, eqTheory. · Lists of theories: how they read, what a call has made; measure, copy, comparison: szTheoryS, toTheoryS, eqTheoryS. · Benches: how they read, how those that a call has made lie; the exact laws' measure, copy and comparison of one. -/
import Derived.Test.YtmmnamjgpfkababK02ff332d
namespace Go.Proofs.Ytmmnamjgpfkabab
section
open Go.RowKit
set_option linter.unusedVariables false

/-- the rows of equations, three an equation -/
def rows3 : List MEq → List (List Int)
  | [] => []
  | e :: es => e.vars :: e.left :: e.right :: rows3 es
theorem rows3_len : ∀ es : List MEq, (rows3 es).length = es.length * 3
  | [] => rfl
  | e :: es => by simp only [rows3, List.length_cons, rows3_len es]; omega
theorem rows3_at : ∀ (es : List MEq) (k : Nat) (e : MEq), es[k]? = some e → (rows3 es)[k * 3]? = some e.vars ∧ (rows3 es)[k * 3 + 1]? = some e.left ∧ (rows3 es)[k * 3 + 2]? = some e.right
  | [], k, e, h => by simp at h
  | x :: es, 0, e, h => by simp at h; subst h; simp [rows3]
  | x :: es, k + 1, e, h => by
    have := rows3_at es k e (by simpa using h)
    rw [show (k + 1) * 3 = k * 3 + 3 by omega]
    simpa [rows3] using this
theorem run_make_wide (t e : TypeId) (z : Value) (size bytes : Nat) (ht : Try.prog.underlying t = some (.slice e)) (hinfo : (Try.prog.info? e).map (fun i => (i.zero, i.size, i.bytes)) = some (some z, size, bytes))
    (kl kc : IntKind) (n : Nat) (hbytes : bytes * n ≤ 281474976710656) (h63 : n ≤ 9223372036854775807) (w : World) :
    (Instr.makeSlice t (.int kl (n : Int)) (.int kc (n : Int))).run Try.prog w = .ok (.slice (some ⟨w.heap.size, 0, none⟩) n n) (w.alloc (.cells (madeCells z.cells (n * size)) e)) := by
  obtain ⟨i, hi, hzz⟩ := Option.map_eq_some_iff.1 hinfo
  simp only [Prod.mk.injEq] at hzz
  obtain ⟨hz, hs, hb⟩ := hzz
  have := run_make (P := Try.prog) w t e i z ht hi hz kl kc n n (by omega) (by omega) (by rw [hb]; omega) (by omega)
  simpa [hs] using this
theorem Try.tinfo_Eq : (Try.prog.info? 71).map (fun i => (i.zero, i.size, i.bytes)) = some (some (.agg #[.slice none 0 0, .slice none 0 0, .slice none 0 0]), 3, 72) := by kernel_rfl

/-- a block that is being filled with rows, cell by cell -/
def FillF (T : TypeId) (w wr : World) (rows : List (List Int)) (k : Nat) : Prop :=
  ∃ cur : Array Value, wr.heap[w.heap.size]? = some (.cells cur T (0, 0)) ∧ cur.size = rows.length ∧ (∀ (j : Nat) (row : List Int), j < k → rows[j]? = some row → ∃ u, cur[j]? = some u ∧ OInts wr (w.heap.size + 1) u row) ∧
    (∀ (i j : Nat) (u u' : Value), i < j → j < k → cur[i]? = some u → cur[j]? = some u' → Apart u u') ∧ Below w.heap.size w wr
section
variable {T : TypeId} {w wr w1 : World} {rows : List (List Int)} {k : Nat}
theorem FillF.start (T : TypeId) (w : World) (rows : List (List Int)) (cur : Array Value) (h : cur.size = rows.length) : FillF T w (w.alloc (.cells cur T)) rows 0 :=
  ⟨cur, heap_alloc_new w _, h, fun j row hj => by omega, fun i j u u' _ hj => by omega, below_alloc _ _⟩
theorem FillF.bel (h : FillF T w wr rows k) : Below w.heap.size w wr := by obtain ⟨_, _, _, _, _, hb⟩ := h; exact hb
theorem FillF.lt (h : FillF T w wr rows k) : w.heap.size < wr.heap.size := by obtain ⟨cur, h1, _⟩ := h; exact (Array.getElem?_eq_some_iff.1 h1).1
theorem FillF.keep (h : FillF T w wr rows k) (hb : Below wr.heap.size wr w1) : FillF T w w1 rows k := by
  have hl := h.lt
  obtain ⟨cur, h1, h2, h3, h4, h5⟩ := h
  exact ⟨cur, (hb.block _ hl).trans h1, h2, fun j row hj hr => by obtain ⟨u, a, b⟩ := h3 j row hj hr; exact ⟨u, a, b.keep hb⟩, h4, h5.trans (hb.mono (by omega))⟩
theorem FillF.cell (h : FillF T w wr rows k) {j : Nat} (hj : j < rows.length) : ∃ u, wr.cell? ⟨w.heap.size, j, none⟩ = some u ∧ wr.frozen? ⟨w.heap.size, j, none⟩ = false := by
  obtain ⟨cur, h1, h2, h3, h4, h5⟩ := h
  exact ⟨cur[j]'(by omega), (blk_cell h1 j).trans (Array.getElem?_eq_getElem (by omega)), blk_free h1 j⟩
/-- what stands there -/
theorem FillF.old (h : FillF T w wr rows k) {j : Nat} {x : Value} (hj : j < k) (hk : k ≤ rows.length) (hx : wr.cell? ⟨w.heap.size, j, none⟩ = some x) : ∀ b, x.ownBlock = some b → b < wr.heap.size := by
  obtain ⟨cur, h1, h2, h3, h4, h5⟩ := h
  obtain ⟨u, a, b⟩ := h3 j rows[j] hj (List.getElem?_eq_getElem (by omega))
  rw [blk_cell h1, a] at hx
  cases hx
  exact fun b' hb' => (own_lt b b' hb').2
theorem FillF.put (h : FillF T w wr rows k) (hk : k < rows.length) {u : Value} {row : List Int} (hr : rows[k]? = some row) (hu : OInts wr (w.heap.size + 1) u row) (ha : ∀ (i : Nat) (x : Value), i < k → wr.cell? ⟨w.heap.size, i, none⟩ = some x → Apart x u) :
    FillF T w (wr.setCell ⟨w.heap.size, k, none⟩ u) rows (k + 1) := by
  obtain ⟨cur, h1, h2, h3, h4, h5⟩ := h
  refine ⟨_, blk_set h1 k u, by simpa using h2, fun j row' hj hrow => ?_, fun i j x x' hij hjk hi hj => ?_, h5.setCell (Nat.le_refl _) _⟩
  · by_cases hjk : k = j
    · subst hjk
      rw [hr] at hrow
      cases hrow
      exact ⟨u, by rw [Array.getElem?_setIfInBounds, if_pos rfl, if_pos (by omega)], hu.setLow (by omega) _ _⟩
    · obtain ⟨x, hx, hxo⟩ := h3 j row' (by omega) hrow
      exact ⟨x, by rw [Array.getElem?_setIfInBounds, if_neg hjk]; exact hx, hxo.setLow (by omega) _ _⟩
  · rw [Array.getElem?_setIfInBounds, if_neg (by omega)] at hi
    by_cases hjk' : k = j
    · subst hjk'
      rw [Array.getElem?_setIfInBounds, if_pos rfl, if_pos (by omega)] at hj
      cases hj
      exact ha i x hij (by rw [blk_cell h1]; exact hi)
    · rw [Array.getElem?_setIfInBounds, if_neg hjk'] at hj
      exact h4 i j x x' hij (by omega) hi hj
theorem apart_old {w1 : World} {B : Nat} {x u : Value} {row : List Int} (hx : ∀ b, x.ownBlock = some b → b < B) (hu : OInts w1 B u row) : Apart x u := by
  unfold Apart
  cases hb : x.ownBlock with
  | none => exact .inl rfl
  | some b => right; intro e; have := hx b hb; have := (own_lt hu b e.symm).1; omega
theorem FillF.put3 (h : FillF T w wr rows (k * 3)) (hb : Below wr.heap.size wr w1) {a b c : Value} {e : MEq} (he : OEq w1 wr.heap.size (.agg #[a, b, c]) e) (hk : k * 3 + 3 ≤ rows.length)
    (r0 : rows[k * 3]? = some e.vars) (r1 : rows[k * 3 + 1]? = some e.left) (r2 : rows[k * 3 + 2]? = some e.right) :
    FillF T w (((w1.setCell ⟨w.heap.size, k * 3, none⟩ a).setCell ⟨w.heap.size, k * 3 + 1, none⟩ b).setCell ⟨w.heap.size, k * 3 + 2, none⟩ c) rows (k * 3 + 3) := by
  have hl := h.lt
  obtain ⟨a', b', c', e', h1, h2, h3, p1, p2, p3⟩ := he
  injection e' with e'
  simp at e'
  obtain ⟨rfl, rfl, rfl⟩ := e'
  have h0 := h.keep hb
  have old : ∀ (j : Nat) (x : Value), j < k * 3 → w1.cell? ⟨w.heap.size, j, none⟩ = some x → ∀ b, x.ownBlock = some b → b < wr.heap.size := fun j x hj hx => by
    refine h.old hj (by omega) ?_
    obtain ⟨cur, q1, _⟩ := h
    have q2 := (hb.block _ hl).trans q1
    rw [blk_cell q2] at hx
    rw [blk_cell q1]; exact hx
  have f1 := h0.put (by omega) r0 (h1.base (by omega)) (fun i x hi hx => apart_old (old i x hi hx) h1)
  have c1 : ∀ (i : Nat) (x u : Value), (w1.setCell ⟨w.heap.size, k * 3, none⟩ u).cell? ⟨w.heap.size, i, none⟩ = some x → i < k * 3 → w1.cell? ⟨w.heap.size, i, none⟩ = some x := fun i x u hx hi => by
    rwa [World.cell?_setCell_other _ _ _ _ (by intro e; injection e; omega)] at hx
  have f2 := f1.put (by omega) r1 ((h2.base (by omega)).setLow (by omega) _ _) (fun i x hi hx => by
    by_cases hi3 : i < k * 3
    · exact apart_old (old i x hi3 (c1 i x _ hx hi3)) h2
    · have : i = k * 3 := by omega
      subst this
      obtain ⟨cur, q1, q2, -⟩ := h0
      rw [blk_cell (blk_set q1 (k * 3) a), Array.getElem?_setIfInBounds, if_pos rfl, if_pos (by omega)] at hx
      cases hx
      exact p1)
  have f3 := f2.put (by omega) r2 (((h3.base (by omega)).setLow (by omega) _ _).setLow (by omega) _ _) (fun i x hi hx => by
    obtain ⟨cur, q1, q2, -⟩ := h0
    have s1 := blk_set q1 (k * 3) a
    have s2 := blk_set s1 (k * 3 + 1) b
    rw [blk_cell s2, Array.getElem?_setIfInBounds] at hx
    by_cases hi4 : k * 3 + 1 = i
    · subst hi4
      rw [if_pos rfl, if_pos (by simp; omega)] at hx
      cases hx
      exact p3
    · rw [if_neg hi4, Array.getElem?_setIfInBounds] at hx
      by_cases hi5 : k * 3 = i
      · subst hi5
        rw [if_pos rfl, if_pos (by omega)] at hx
        cases hx
        exact p2
      · rw [if_neg hi5] at hx
        exact apart_old (old i x (by omega) (by rw [blk_cell q1]; exact hx)) h3)
  exact f3
theorem FillF.done {n size : Nat} (h : FillF T w wr rows k) (hk : k = rows.length) (hn : n * size = rows.length) (hm : n ≤ 9223372036854775807) : ORowsT T size n wr w.heap.size (.slice (some ⟨w.heap.size, 0, none⟩) n n) rows ∧ Below w.heap.size w wr := by
  obtain ⟨cur, h1, h2, h3, h4, h5⟩ := h
  subst hk
  refine ⟨⟨cur.toList, ?_, by simpa using h2, fun j u row hu hrow => ?_, fun i j u u' hij hi hj => ?_⟩, h5⟩
  · refine ⟨by simp [h2, hn], .inr ⟨w.heap.size, _, cur, rfl, Nat.le_refl _, h1, Nat.le_refl _, by rw [maxLen_eq]; exact hm, by omega, List.take_of_length_le (by simp; omega)⟩⟩
  · obtain ⟨x, hx, hxo⟩ := h3 j row (List.getElem?_eq_some_iff.1 hrow).1 hrow
    rw [Array.getElem?_toList, hx] at hu
    cases hu
    exact hxo.base (by omega)
  · rw [Array.getElem?_toList] at hi hj
    exact h4 i j u u' hij (by have := (Array.getElem?_eq_some_iff.1 hj).1; omega) hi hj
end

def OEqs (w : World) (B : Nat) (v : Value) (es : List MEq) : Prop := ORowsT 71 3 es.length w B v (rows3 es)
section
variable {T : TypeId} {size n : Nat} {w w' : World} {B B' : Nat} {v : Value} {rows : List (List Int)} {es : List MEq}
theorem ORowsT.keep (h : ORowsT T size n w B v rows) (hb : Below w.heap.size w w') : ORowsT T size n w' B v rows := by
  obtain ⟨us, h1, h2, h3, h4⟩ := h
  exact ⟨us, own_keep h1 hb, h2, fun j u row a b => (h3 j u row a b).keep hb, h4⟩
theorem ORowsT.base (h : ORowsT T size n w B v rows) (hB : B' ≤ B) : ORowsT T size n w B' v rows := by
  obtain ⟨us, h1, h2, h3, h4⟩ := h
  exact ⟨us, own_base h1 hB, h2, fun j u row a b => (h3 j u row a b).base hB, h4⟩
theorem ORowsT.setLow {b : Nat} (h : ORowsT T size n w B v rows) (hb : b < B) (i : Nat) (x : Value) : ORowsT T size n (w.setCell ⟨b, i, none⟩ x) B v rows := by
  obtain ⟨us, h1, h2, h3, h4⟩ := h
  exact ⟨us, ownsRow_setCell_below h1 hb _, h2, fun j u row a b' => (h3 j u row a b').setLow hb _ _, h4⟩
theorem wide_reads {e : TypeId} {zs : List Value} (h : w.ownsRow B e size v n zs) : ∃ A c, v = .slice A n c ∧ n ≤ c ∧ c ≤ maxLen ∧ ∀ j x, zs[j]? = some x → ∃ b, A = some ⟨b, 0, none⟩ ∧ w.cell? ⟨b, j, none⟩ = some x := by
  obtain ⟨hl, h⟩ := h
  rcases h with ⟨rfl, rfl⟩ | ⟨g, cap, cur, rfl, hg, hh, h1, h2, h3, h4⟩
  · refine ⟨none, 0, rfl, Nat.le_refl _, Nat.zero_le _, fun j x hj => ?_⟩
    have : zs = [] := List.eq_nil_of_length_eq_zero (by simpa using hl)
    subst this
    simp at hj
  · refine ⟨_, cap, rfl, h1, h2, fun j x hj => ⟨g, rfl, ?_⟩⟩
    subst h4
    rw [List.getElem?_take] at hj
    split at hj
    · simpa [World.cell?, hh] using hj
    · cases hj
theorem OEqs.reads (h : OEqs w B v es) : REqs w v es := by
  obtain ⟨us, h1, h2, h3, -⟩ := h
  obtain ⟨A, c, e, k1, k2, k3⟩ := wide_reads h1
  refine ⟨A, c, e, k1, k2, fun j q hj => ?_⟩
  obtain ⟨r0, r1, r2⟩ := rows3_at es j q hj
  have hjl := (List.getElem?_eq_some_iff.1 hj).1
  have hl := rows3_len es
  have get : ∀ i, i < es.length * 3 → ∃ u, us[i]? = some u := fun i hi => ⟨us[i]'(by omega), List.getElem?_eq_getElem _⟩
  obtain ⟨x, hx⟩ := get (j * 3) (by omega)
  obtain ⟨y, hy⟩ := get (j * 3 + 1) (by omega)
  obtain ⟨z, hz⟩ := get (j * 3 + 2) (by omega)
  obtain ⟨b, ea, c0⟩ := k3 _ x hx
  obtain ⟨b1, ea1, c1⟩ := k3 _ y hy
  obtain ⟨b2, ea2, c2⟩ := k3 _ z hz
  rw [ea] at ea1 ea2
  cases ea1
  cases ea2
  exact ⟨b, 0, x, y, z, ea, by simpa using c0, by simpa using c1, by simpa using c2, (h3 _ _ _ hx r0).reads, (h3 _ _ _ hy r1).reads, (h3 _ _ _ hz r2).reads⟩
end

theorem szEqS_any (v : Value) (es : List MEq) (left : Int) (w : World) (h : REqs w v es) (h0 : 0 ≤ left) (h1 : left ≤ 1048576) :
    Calls Try.prog 68 #[v, .int .i64 left] w fun e w' => ∃ r : Int, e = .returned (.int .i64 r) ∧ (r < 0 ∨ (0 ≤ r ∧ r ≤ left ∧ FitsEs es)) ∧ Below w.heap.size w w' := by
  have H := Lib.hid h
  have hn := h.len
  obtain ⟨A, c, rfl, -⟩ := h.form
  clear h
  by_cases hl : left - (es.length : Int) < 0
  · go_enter Try.func68, Try.ntmps68
    go_wp2
    go_ret
    exact ⟨-1, rfl, .inl (by omega), Below.refl _ _⟩
  · go_enter Try.func68, Try.ntmps68
    go_wp2
    go_loopw [1, 5] (fun l i wr => ∃ k : Nat, ∃ r : Int, k ≤ es.length ∧ i = .int .i64 k ∧ l = .int .i64 r ∧ 0 ≤ r ∧ r ≤ left ∧ (∀ e ∈ es.take k, FitsE e) ∧ Below w.heap.size w wr) (fun _ i _ => es.length - (intOf i).toNat)
    case atStart => exact ⟨0, _, Nat.zero_le _, rfl, rfl, by omega, by omega, by simp, Below.refl _ _⟩
    case round =>
      obtain ⟨k, r, hk, rfl, rfl, hr0, hr1, hb0, hbw⟩ := hrel
      have hb := Lib.hid hb0
      have HBW := Lib.hid hbw
      clear hb0 hbw
      by_cases hlt : k < es.length
      · obtain ⟨b, o, c', x, y, z, e, c0, c1, c2, q0, q1, q2⟩ := (H.out.keep HBW.out).at_ hlt
        cases e
        have HT := Lib.hid (List.take_succ_eq_append_getElem hlt)
        generalize es[k] = e at q0 q1 q2 HT
        have HI := Lib.hid (show REq wr (.agg #[x, y, z]) e from ⟨x, y, z, rfl, q0, q1, q2⟩)
        obtain ⟨A0, d0, rfl, -⟩ := q0.form
        obtain ⟨A1, d1, rfl, -⟩ := q1.form
        obtain ⟨A2, d2, rfl, -⟩ := q2.form
        clear q0 q1 q2
        go_wp2_with fail
        refine (szEq_any _ e _ _ HI.out hr0 (by omega)).mono ?_
        rintro e' w1 ⟨r', rfl, hr', hb1⟩
        have HB1 := Lib.hid (sz_keep HBW.out hb1)
        clear hb1 c0 c1 c2
        by_cases hneg : r' < 0
        · clear hr'
          go_wp2
          go_ret
          exact ⟨-1, rfl, .inl (by omega), HB1.out⟩
        · obtain ⟨h2, h3, h4⟩ := hr'.resolve_left hneg
          have HR := Lib.hid (And.intro h3 h4)
          clear h3 h4 hr'
          go_wp2
          go_roundw
          case rel =>
            refine ⟨k + 1, r', by omega, by go_num, rfl, h2, by have := HR.out.1; omega, ?_, HB1.out⟩
            rw [HT.out]
            intro x hx
            rcases List.mem_append.1 hx with hx | hx
            · exact hb.out x hx
            · simp at hx; subst hx; exact HR.out.2
          case measure => simp [intOf]; omega
      · go_wp2
        go_ret
        have h := hb.out
        rw [take_all (by omega)] at h
        exact ⟨r, rfl, .inr ⟨hr0, hr1, by omega, h⟩, HBW.out⟩

set_option maxRecDepth 100000 in
theorem toEqS_any (v : Value) (es : List MEq) (w : World) (h : REqs w v es) (hs : FitsEs es) :
    Calls Try.prog 77 #[v] w fun e w' => ∃ u, e = .returned u ∧ OEqs w' w.heap.size u es ∧ Below w.heap.size w w' := by
  have H := Lib.hid h
  have HS := Lib.hid hs
  obtain ⟨A, c, rfl, -⟩ := h.form
  have hlen := hs.1
  have HL := Lib.hid (rows3_len es)
  clear h hs
  have hmk := run_make_wide 34 71 _ 3 72 Try.underlying34 Try.tinfo_Eq .i64 .i64 es.length (by omega) (by omega)
  go_enter Try.func77, Try.ntmps77
  go_wp2
  go_loopw [4] (fun i wr => ∃ k : Nat, k ≤ es.length ∧ i = .int .i64 k ∧ FillF 71 w wr (rows3 es) (k * 3)) (fun i _ => es.length - (intOf i).toNat)
  case atStart => exact ⟨0, Nat.zero_le _, rfl, FillF.start _ w _ _ (by rw [HL.out]; simp [madeCells])⟩
  case round =>
    obtain ⟨k, hk, rfl, hf⟩ := hrel
    have HF := Lib.hid hf
    clear hf hmk
    by_cases hlt : k < es.length
    · obtain ⟨b, o, c', x, y, z, e, c0, c1, c2, q0, q1, q2⟩ := (H.out.keep HF.out.bel).at_ hlt
      cases e
      have hfe := HS.out.2 _ (List.getElem_mem hlt)
      have HR3 := Lib.hid (rows3_at es k _ (List.getElem?_eq_getElem hlt))
      generalize es[k] = e at q0 q1 q2 hfe HR3
      have HI := Lib.hid (show REq wr (.agg #[x, y, z]) e from ⟨x, y, z, rfl, q0, q1, q2⟩)
      have HFE := Lib.hid hfe
      obtain ⟨A0, d0, rfl, -⟩ := q0.form
      obtain ⟨A1, d1, rfl, -⟩ := q1.form
      obtain ⟨A2, d2, rfl, -⟩ := q2.form
      clear q0 q1 q2 hfe
      go_wp2_with fail
      refine (toEq_any _ e _ HI.out HFE.out).mono ?_
      rintro e' w1 ⟨u, rfl, ho, hb⟩
      obtain ⟨B0, g0, B1, g1, B2, g2, rfl⟩ := ho.reads.form
      have hkp := HF.out.keep hb
      obtain ⟨z0, m0, n0⟩ := hkp.cell (j := k * 3) (by have := HL.out; omega)
      obtain ⟨z1, m1, n1⟩ := hkp.cell (j := k * 3 + 1) (by have := HL.out; omega)
      obtain ⟨z2, m2, n2⟩ := hkp.cell (j := k * 3 + 2) (by have := HL.out; omega)
      have HN := Lib.hid (HF.out.put3 hb ho (by have := HL.out; omega) HR3.out.1 HR3.out.2.1 HR3.out.2.2)
      clear ho hb hkp c0 c1 c2
      go_wp2
      go_roundw
      case rel => exact ⟨k + 1, by omega, by go_num, by rw [show (k + 1) * 3 = k * 3 + 3 by omega]; exact HN.out⟩
      case measure => simp [intOf]; omega
    · have hkn : k = es.length := by omega
      go_wp2
      go_ret
      obtain ⟨r1, r2⟩ := HF.out.done (n := es.length) (size := 3) (by rw [HL.out]; omega) (by rw [HL.out]) (by omega)
      exact ⟨_, rfl, r1, r2⟩

theorem eq_drew (w : World) : Below w.heap.size w w.drew := ⟨rfl, rfl, rfl, Nat.le_refl _, fun _ _ => rfl⟩
theorem eq_undrew {w w' : World} (h : Below w.drew.heap.size w.drew w') : Below w.heap.size w w' := ⟨h.os, h.tape, h.output, h.size, h.block⟩
theorem takeE_bad {xs ys : List MEq} {k : Nat} (hx : k < xs.length) (hy : k < ys.length) (he : sameE xs[k] ys[k] = false) : sameEs xs ys = false := by
  cases h : sameEs xs ys with
  | false => rfl
  | true =>
    have := sameEs_eq.1 h
    subst this
    rw [sameE_self] at he
    cases he
theorem eqEqS_any (v v' : Value) (xs ys : List MEq) (w : World) (h : REqs w v xs) (h' : REqs w v' ys) :
    Calls Try.prog 86 #[v, v'] w fun e w' => e = .returned (.bool (sameEs xs ys)) ∧ Below w.heap.size w w' := by
  have H := Lib.hid h
  have H' := Lib.hid h'
  have hn := h.len
  have hn' := h'.len
  obtain ⟨A, c, rfl, -⟩ := h.form
  obtain ⟨A', c', rfl, -⟩ := h'.form
  clear h h'
  by_cases hl : xs.length = ys.length
  · have hl' : ((xs.length : Int) != (ys.length : Int)) = false := by simp [hl]
    have HL := Lib.hid hl
    have hle : xs.length ≤ ys.length := by omega
    have hge : ys.length ≤ xs.length := by omega
    clear hl
    go_enter Try.func86, Try.ntmps86
    go_wp2
    go_loopw [5] (fun i wr => ∃ k : Nat, k ≤ xs.length ∧ i = .int .i64 k ∧ xs.take k = ys.take k ∧ Below w.heap.size w wr) (fun i _ => xs.length - (intOf i).toNat)
    case atStart => exact ⟨0, Nat.zero_le _, rfl, rfl, Below.refl _ _⟩
    case round =>
      obtain ⟨k, hk, rfl, hb0, hd⟩ := hrel
      have hb := Lib.hid hb0
      have HD := Lib.hid hd
      clear hb0 hd
      by_cases hlt : k < xs.length
      · obtain ⟨b, o, c3, x0, x1, x2, e, c00, c01, c02, q0, q1, q2⟩ := (H.out.keep HD.out).at_ hlt
        cases e
        obtain ⟨b', o', c4, y0, y1, y2, e, d00, d01, d02, p0, p1, p2⟩ := (H'.out.keep HD.out).at_ (show k < ys.length by omega)
        cases e
        have hs1 : (k : Int) < (xs.length : Int) := by omega
        have hs2 : (k : Int) < (ys.length : Int) := by omega
        have HT := Lib.hid (take_succ_eq hlt (show k < ys.length by omega) hb.out)
        have HN := Lib.hid (takeE_bad hlt (show k < ys.length by omega))
        generalize xs[k] = x at q0 q1 q2 HT HN
        generalize ys[k]'(by omega) = y at p0 p1 p2 HT HN
        have HX := Lib.hid (show REq wr (.agg #[x0, x1, x2]) x from ⟨x0, x1, x2, rfl, q0, q1, q2⟩)
        have HY := Lib.hid (show REq wr (.agg #[y0, y1, y2]) y from ⟨y0, y1, y2, rfl, p0, p1, p2⟩)
        obtain ⟨A0, g0, rfl, -⟩ := q0.form
        obtain ⟨A1, g1, rfl, -⟩ := q1.form
        obtain ⟨A2, g2, rfl, -⟩ := q2.form
        obtain ⟨B0, h0, rfl, -⟩ := p0.form
        obtain ⟨B1, h1, rfl, -⟩ := p1.form
        obtain ⟨B2, h2, rfl, -⟩ := p2.form
        clear q0 q1 q2 p0 p1 p2
        have ea := World.new_ne wr _ c00
        have eb := World.new_ne wr _ d00
        cases hxy : sameE x y with
        | true =>
          have HXY := Lib.hid hxy
          clear hxy
          go_wp2_with fail
          go_region_held3 (fun w' => w'.cell? ⟨b, o + k * 3, none⟩ = some (.slice A0 x.vars.length g0) ∧ w'.cell? ⟨b, o + k * 3 + 1, none⟩ = some (.slice A1 x.left.length g1) ∧ w'.cell? ⟨b, o + k * 3 + 2, none⟩ = some (.slice A2 x.right.length g2) ∧ w'.cell? ⟨b', o' + k * 3, none⟩ = some (.slice B0 y.vars.length h0) ∧ w'.cell? ⟨b', o' + k * 3 + 1, none⟩ = some (.slice B1 y.left.length h1) ∧ w'.cell? ⟨b', o' + k * 3 + 2, none⟩ = some (.slice B2 y.right.length h2)) (first | go_keep)
            (first
              | (go_at_call 41; refine (eqEq_is _ _ _ _ wr.drew _ HXY.out (HX.out.keep (eq_drew _)) (HY.out.keep (eq_drew _))).mono ?_; rintro e w2 ⟨rfl, hb2⟩; have HB2 := Lib.hid (eq_undrew hb2); have j0 := cell_keep HB2.out c00; have j1 := cell_keep HB2.out c01; have j2 := cell_keep HB2.out c02; have j3 := cell_keep HB2.out d00; have j4 := cell_keep HB2.out d01; have j5 := cell_keep HB2.out d02; clear hb2))
          have HBN := Lib.hid (sz_keep HD.out HB2.out)
          clear c00 c01 c02 d00 d01 d02 j0 j1 j2 j3 j4 j5 ea eb
          go_wp2
          go_roundw
          case rel => exact ⟨k + 1, by omega, by go_num, HT.out (sameE_eq.1 HXY.out), HBN.out⟩
          case measure => simp [intOf]; omega
        | false =>
          have HXY := Lib.hid hxy
          clear hxy
          go_wp2_with fail
          go_region_held3 (fun w' => w'.cell? ⟨b, o + k * 3, none⟩ = some (.slice A0 x.vars.length g0) ∧ w'.cell? ⟨b, o + k * 3 + 1, none⟩ = some (.slice A1 x.left.length g1) ∧ w'.cell? ⟨b, o + k * 3 + 2, none⟩ = some (.slice A2 x.right.length g2) ∧ w'.cell? ⟨b', o' + k * 3, none⟩ = some (.slice B0 y.vars.length h0) ∧ w'.cell? ⟨b', o' + k * 3 + 1, none⟩ = some (.slice B1 y.left.length h1) ∧ w'.cell? ⟨b', o' + k * 3 + 2, none⟩ = some (.slice B2 y.right.length h2)) (first | go_keep)
            (first
              | (go_at_call 41; refine (eqEq_is _ _ _ _ wr.drew _ HXY.out (HX.out.keep (eq_drew _)) (HY.out.keep (eq_drew _))).mono ?_; rintro e w2 ⟨rfl, hb2⟩; have HB2 := Lib.hid (eq_undrew hb2); have j0 := cell_keep HB2.out c00; have j1 := cell_keep HB2.out c01; have j2 := cell_keep HB2.out c02; have j3 := cell_keep HB2.out d00; have j4 := cell_keep HB2.out d01; have j5 := cell_keep HB2.out d02; clear hb2))
          have HBN := Lib.hid (sz_keep HD.out HB2.out)
          clear c00 c01 c02 d00 d01 d02 j0 j1 j2 j3 j4 j5 ea eb
          go_wp2
          go_ret
          exact ⟨ret_bool (HN.out HXY.out).symm, HBN.out⟩
      · go_wp2
        go_ret
        have h := hb.out
        rw [take_all (by omega), take_all (by omega)] at h
        exact ⟨ret_bool (by rw [h, sameEs_self]), HD.out⟩
  · have hl' : ((xs.length : Int) != (ys.length : Int)) = true := by simp; omega
    have HL := Lib.hid hl
    clear hl
    go_enter Try.func86, Try.ntmps86
    go_wp2
    go_ret
    refine ⟨ret_bool ?_, Below.refl _ _⟩
    cases h : sameEs xs ys with
    | false => rfl
    | true => have := sameEs_eq.1 h; subst this; exact absurd rfl HL.out
end

section
open Go.RowKit
set_option linter.unusedVariables false

/-- a theory that a call has made: the rows of its operations lie apart from those of its axioms -/
def OThy (w : World) (B : Nat) (v : Value) (t : MThy) : Prop := ∃ u x, v = .agg #[.int .i64 t.over.sorts, u, x] ∧ ∃ (wc : World) (B0 : Nat), B ≤ B0 ∧ B0 ≤ wc.heap.size ∧ wc.heap.size ≤ w.heap.size ∧ ORows wc B0 u t.over.ops ∧ (∀ k, B0 ≤ k → k < wc.heap.size → w.heap[k]? = wc.heap[k]?) ∧ OEqs w wc.heap.size x t.eqs
theorem orows_same {w w' : World} {B : Nat} {v : Value} {rows : List (List Int)} (h : ORows w B v rows) (hk : ∀ k, B ≤ k → k < w.heap.size → w'.heap[k]? = w.heap[k]?) : ORows w' B v rows := by
  obtain ⟨us, h1, h2, h3, h4⟩ := h
  have same : ∀ {B2 : Nat} {e : TypeId} {size n : Nat} {v : Value} {zs : List Value}, B ≤ B2 → w.ownsRow B2 e size v n zs → w'.ownsRow B2 e size v n zs := fun hB h => by
    refine ⟨h.1, ?_⟩
    rcases h.2 with h2 | ⟨g, cap, cur, rfl, hg, hh, r⟩
    · exact .inl h2
    · exact .inr ⟨g, cap, cur, rfl, hg, (hk g (by omega) (Array.getElem?_eq_some_iff.1 hh).1).trans hh, r⟩
  exact ⟨us, same (Nat.le_refl _) h1, h2, fun j u row a b => same (Nat.le_refl _) (h3 j u row a b), h4⟩
theorem orowsT_same {T : TypeId} {size n : Nat} {w w' : World} {B : Nat} {v : Value} {rows : List (List Int)} (h : ORowsT T size n w B v rows) (hk : ∀ k, B ≤ k → k < w.heap.size → w'.heap[k]? = w.heap[k]?) : ORowsT T size n w' B v rows := by
  obtain ⟨us, h1, h2, h3, h4⟩ := h
  have same : ∀ {B2 : Nat} {e : TypeId} {size n : Nat} {v : Value} {zs : List Value}, B ≤ B2 → w.ownsRow B2 e size v n zs → w'.ownsRow B2 e size v n zs := fun hB h => by
    refine ⟨h.1, ?_⟩
    rcases h.2 with h2 | ⟨g, cap, cur, rfl, hg, hh, r⟩
    · exact .inl h2
    · exact .inr ⟨g, cap, cur, rfl, hg, (hk g (by omega) (Array.getElem?_eq_some_iff.1 hh).1).trans hh, r⟩
  exact ⟨us, same (Nat.le_refl _) h1, h2, fun j u row a b => same (Nat.le_refl _) (h3 j u row a b), h4⟩
section
variable {w w' : World} {B B' : Nat} {v : Value} {t : MThy}
theorem OThy.same (h : OThy w B v t) (hs : w.heap.size ≤ w'.heap.size) (hk : ∀ k, B ≤ k → k < w.heap.size → w'.heap[k]? = w.heap[k]?) : OThy w' B v t := by
  obtain ⟨u, x, rfl, wc, B0, z, a, b, c, d, e⟩ := h
  exact ⟨u, x, rfl, wc, B0, z, a, by omega, c, fun k h1 h2 => (hk k (by omega) (by omega)).trans (d k h1 h2), orowsT_same e fun k h1 h2 => hk k (by omega) h2⟩
theorem OThy.keep (h : OThy w B v t) (hb : Below w.heap.size w w') : OThy w' B v t := h.same hb.size fun k _ hk => hb.block k hk
theorem OThy.base (h : OThy w B v t) (hB : B' ≤ B) : OThy w B' v t := by
  obtain ⟨u, x, rfl, wc, B0, z, r⟩ := h
  exact ⟨u, x, rfl, wc, B0, by omega, r⟩
theorem OThy.rows (h : OThy w B v t) : ∃ u x, v = .agg #[.int .i64 t.over.sorts, u, x] ∧ ORows w B u t.over.ops ∧ OEqs w B x t.eqs := by
  obtain ⟨u, x, rfl, wc, B0, z, a, b, c, d, e⟩ := h
  exact ⟨u, x, rfl, (orows_same c d).base z, e.base (by omega)⟩
theorem OThy.reads (h : OThy w B v t) : RThy w v t := by
  obtain ⟨u, x, rfl, h1, h2⟩ := h.rows
  exact ⟨u, x, rfl, h1.reads, h2.reads⟩
end
def FitsT (t : MThy) : Prop := Fits t.over.ops ∧ FitsEs t.eqs
def sameT (a b : MThy) : Bool := sameS a.over b.over && sameEs a.eqs b.eqs
theorem sameT_self (a : MThy) : sameT a a = true := by unfold sameT; rw [sameS_self, sameEs_self]; rfl

set_option maxRecDepth 100000 in
theorem szTheory_any (v : Value) (t : MThy) (left : Int) (w : World) (h : RThy w v t) (h0 : 0 ≤ left) (h1 : left ≤ 1048576) :
    Calls Try.prog 28 #[v, .int .i64 left] w fun e w' => ∃ r : Int, e = .returned (.int .i64 r) ∧ (r < 0 ∨ (0 ≤ r ∧ r ≤ left ∧ FitsT t)) ∧ Below w.heap.size w w' := by
  obtain ⟨Ata, cta, Atb, ctb, rfl⟩ := h.form
  have hb : Below w.heap.size w (w.alloc (.cells #[.int .i64 t.over.sorts, .slice Ata t.over.ops.length cta, .slice Atb t.eqs.length ctb] 27)) := below_alloc _ _
  have HB := Lib.hid hb
  have hsz : (w.alloc (.cells #[.int .i64 t.over.sorts, .slice Ata t.over.ops.length cta, .slice Atb t.eqs.length ctb] 27)).heap.size = w.heap.size + 1 := by simp
  have Ht := Lib.hid (h.keep hb)
  have t0 := bx_at (w) #[.int .i64 t.over.sorts, .slice Ata t.over.ops.length cta, .slice Atb t.eqs.length ctb] 27 (k := 0) rfl
  have t1 := bx_at (w) #[.int .i64 t.over.sorts, .slice Ata t.over.ops.length cta, .slice Atb t.eqs.length ctb] 27 (k := 1) rfl
  have t2 := bx_at (w) #[.int .i64 t.over.sorts, .slice Ata t.over.ops.length cta, .slice Atb t.eqs.length ctb] 27 (k := 2) rfl
  generalize hW : w.alloc (.cells #[.int .i64 t.over.sorts, .slice Ata t.over.ops.length cta, .slice Atb t.eqs.length ctb] 27) = W at HB hsz Ht t0 t1 t2
  clear hb h
  obtain ⟨-, r1, r2⟩ := Ht.out.of
  have R1 := Lib.hid (show RSig W (.agg #[.int .i64 t.over.sorts, .slice Ata t.over.ops.length cta]) t.over from ⟨_, rfl, r1⟩)
  have R2 := Lib.hid r2
  clear r1 r2
  go_enter Try.func28, Try.ntmps28
  go_wp2_with fail
  clear hW
  refine (szSig_any _ t.over _ _ R1.out h0 h1).mono ?_
  rintro e w1 ⟨r, rfl, hr, hb⟩
  have HB1 := Lib.hid (sz_keep HB.out hb)
  have R21 := Lib.hid (R2.out.keep hb)
  have m1 := cell_keep hb t2
  clear hb t0 t1 t2
  by_cases hneg : r < 0
  · clear hr
    go_wp2
    go_ret
    exact ⟨-1, rfl, .inl (by omega), HB1.out⟩
  obtain ⟨hr2, hr3, hr4⟩ := hr.resolve_left hneg
  have HR := Lib.hid hr4
  have hr5 : r ≤ 1048576 := by omega
  clear hr hr4
  go_wp2_with fail
  refine (szEqS_any _ t.eqs _ _ R21.out hr2 hr5).mono ?_
  rintro e w2 ⟨q, rfl, hr, hb⟩
  have HB2 := Lib.hid (sz_keep HB1.out hb)
  clear hb m1
  by_cases hneg2 : q < 0
  · clear hr
    go_wp2
    go_ret
    exact ⟨-1, rfl, .inl (by omega), HB2.out⟩
  obtain ⟨hr6, hr7, hr8⟩ := hr.resolve_left hneg2
  have HQ := Lib.hid hr8
  clear hr hr8
  go_wp2
  go_ret
  exact ⟨q, rfl, .inr ⟨hr6, by omega, HR.out, HQ.out⟩, HB2.out⟩

theorem ORows.setLowT {w : World} {B b : Nat} {v : Value} {rows : List (List Int)} (h : ORows w B v rows) (hb : b < B) (i : Nat) (x : Value) : ORows (w.setCell ⟨b, i, none⟩ x) B v rows := h.setLow' hb i x

set_option maxRecDepth 100000 in
theorem toTheory_any (v : Value) (t : MThy) (w : World) (h : RThy w v t) (hs : FitsT t) :
    Calls Try.prog 33 #[v] w fun e' w' => ∃ u, e' = .returned u ∧ OThy w' w.heap.size u t ∧ Below w.heap.size w w' := by
  obtain ⟨At, ct, Bt, dt, rfl⟩ := h.form
  obtain ⟨-, h1, h2⟩ := h.of
  obtain ⟨hs1, hs2⟩ := hs
  have hm := Mk.start w 27 36 #[.int .i64 t.over.sorts, .slice At t.over.ops.length ct, .slice Bt t.eqs.length dt] #[.int .i64 0, .slice none 0 0, .slice none 0 0] #[.int .i64 0, .slice none 0 0, .slice none 0 0]
  generalize hW : ((w.alloc (.cells #[.int .i64 t.over.sorts, .slice At t.over.ops.length ct, .slice Bt t.eqs.length dt] 27)).alloc (.cells #[.int .i64 0, .slice none 0 0, .slice none 0 0] 36)).alloc (.cells #[.int .i64 0, .slice none 0 0, .slice none 0 0] 36) = W at hm
  have H1 := Lib.hid (show RSig W (.agg #[.int .i64 t.over.sorts, .slice At t.over.ops.length ct]) t.over from ⟨_, rfl, h1.keep hm.b⟩)
  have H2 := Lib.hid h2
  have HS1 := Lib.hid hs1
  have HS2 := Lib.hid hs2
  have p0 : W.cell? ⟨w.heap.size, 0, none⟩ = some (.int .i64 t.over.sorts) := hm.ca 0
  have p1 : W.cell? ⟨w.heap.size, 1, none⟩ = some (.slice At t.over.ops.length ct) := hm.ca 1
  have HM := Lib.hid hm
  clear h h1 h2 hm hs1 hs2
  go_enter Try.func33, Try.ntmps33
  go_wp2_with fail
  clear hW
  refine (toSig_any _ t.over _ H1.out HS1.out).mono ?_
  rintro e w4 ⟨u0, rfl, ho, hb⟩
  have hz := HM.out.z
  have hm := HM.out.below hb
  obtain ⟨B0, d0, rfl⟩ := ho.reads.form
  obtain ⟨u', eu, ho'⟩ := ho
  injection eu with eu
  simp at eu
  subst eu
  have q0 : w4.cell? ⟨w.heap.size + 2, 0, none⟩ = some (.int .i64 0) := hm.co 0
  have q1 : w4.cell? ⟨w.heap.size + 2, 1, none⟩ = some (.slice none 0 0) := hm.co 1
  have q2 := hm.fo 0
  have q3 := hm.fo 1
  have hm5 := (hm.setO 0 (.int .i64 t.over.sorts)).setO 1 (.slice B0 t.over.ops.length d0)
  have ho5 := (ho'.setLow' (b := w.heap.size + 2) (by omega) 0 (.int .i64 t.over.sorts)).setLow' (b := w.heap.size + 2) (by omega) 1 (.slice B0 t.over.ops.length d0)
  generalize hW5 : (w4.setCell ⟨w.heap.size + 2, 0, none⟩ (.int .i64 t.over.sorts)).setCell ⟨w.heap.size + 2, 1, none⟩ (.slice B0 t.over.ops.length d0) = w5 at hm5 ho5
  have p2 : w5.cell? ⟨w.heap.size, 2, none⟩ = some (.slice Bt t.eqs.length dt) := hm5.ca 2
  have HO5 := Lib.hid ho5
  have HM5 := Lib.hid hm5
  have HM5sz := Lib.hid (show W.heap.size ≤ w5.heap.size by have := hb.size; rw [← hW5]; simpa [World.setCell] using this)
  have H2 := Lib.hid (H2.out.keep hm5.b)
  clear ho' hb hm p0 p1 hm5 ho5 H1
  go_wp2_with fail
  clear hW5 q0 q1 q2 q3
  refine (toEqS_any _ t.eqs _ H2.out HS2.out).mono ?_
  rintro e w8 ⟨u2, rfl, ho, hb⟩
  have hz7 := HM5.out.z
  have hm := HM5.out.below hb
  obtain ⟨B2, d2, rfl, -⟩ := ho.reads.form
  have hm9 := (((hm.setO 2 (.slice B2 t.eqs.length d2)).setR 0 (.int .i64 t.over.sorts)).setR 1 (.slice B0 t.over.ops.length d0)).setR 2 (.slice B2 t.eqs.length d2)
  have o2 := (((ho.setLow (b := w.heap.size + 2) (by omega) 2 (.slice B2 t.eqs.length d2)).setLow (b := w.heap.size + 1) (by omega) 0 (.int .i64 t.over.sorts)).setLow (b := w.heap.size + 1) (by omega) 1 (.slice B0 t.over.ops.length d0)).setLow (b := w.heap.size + 1) (by omega) 2 (.slice B2 t.eqs.length d2)
  have hkk : ∀ k, w.heap.size + 3 ≤ k → k < w5.heap.size → ((((w8.setCell ⟨w.heap.size + 2, 2, none⟩ (.slice B2 t.eqs.length d2)).setCell ⟨w.heap.size + 1, 0, none⟩ (.int .i64 t.over.sorts)).setCell ⟨w.heap.size + 1, 1, none⟩ (.slice B0 t.over.ops.length d0)).setCell ⟨w.heap.size + 1, 2, none⟩ (.slice B2 t.eqs.length d2)).heap[k]? = w5.heap[k]? := fun k h1 h2 => by
    rw [Below.heap_setCell _ ⟨w.heap.size + 1, 2, none⟩ _ k (by show k ≠ w.heap.size + 1; omega), Below.heap_setCell _ ⟨w.heap.size + 1, 1, none⟩ _ k (by show k ≠ w.heap.size + 1; omega), Below.heap_setCell _ ⟨w.heap.size + 1, 0, none⟩ _ k (by show k ≠ w.heap.size + 1; omega), Below.heap_setCell _ ⟨w.heap.size + 2, 2, none⟩ _ k (by show k ≠ w.heap.size + 2; omega)]
    exact hb.block k h2
  have hsz9 : w5.heap.size ≤ ((((w8.setCell ⟨w.heap.size + 2, 2, none⟩ (.slice B2 t.eqs.length d2)).setCell ⟨w.heap.size + 1, 0, none⟩ (.int .i64 t.over.sorts)).setCell ⟨w.heap.size + 1, 1, none⟩ (.slice B0 t.over.ops.length d0)).setCell ⟨w.heap.size + 1, 2, none⟩ (.slice B2 t.eqs.length d2)).heap.size := by have := hb.size; simpa [World.setCell] using this
  have HF := Lib.hid (And.intro o2 (And.intro hkk hsz9))
  have HM9 := Lib.hid hm9
  have q0 : w8.cell? ⟨w.heap.size + 2, 0, none⟩ = some (.int .i64 t.over.sorts) := hm.co 0
  have q1 : w8.cell? ⟨w.heap.size + 2, 1, none⟩ = some (.slice B0 t.over.ops.length d0) := hm.co 1
  have q2 : w8.cell? ⟨w.heap.size + 2, 2, none⟩ = some (.slice none 0 0) := hm.co 2
  have q3 := hm.fo 2
  have q4 : w8.cell? ⟨w.heap.size + 1, 0, none⟩ = some (.int .i64 0) := hm.cr 0
  have q5 : w8.cell? ⟨w.heap.size + 1, 1, none⟩ = some (.slice none 0 0) := hm.cr 1
  have q6 : w8.cell? ⟨w.heap.size + 1, 2, none⟩ = some (.slice none 0 0) := hm.cr 2
  have q7 := hm.fr 0
  have q8 := hm.fr 1
  have q9 := hm.fr 2
  clear ho hb hm hm9 o2 hkk hsz9 H2 p2
  go_wp2
  obtain ⟨o2, hkk, hsz9⟩ := HF.out
  have hm9 := HM9.out
  generalize (((w8.setCell ⟨w.heap.size + 2, 2, none⟩ (.slice B2 t.eqs.length d2)).setCell ⟨w.heap.size + 1, 0, none⟩ (.int .i64 t.over.sorts)).setCell ⟨w.heap.size + 1, 1, none⟩ (.slice B0 t.over.ops.length d0)).setCell ⟨w.heap.size + 1, 2, none⟩ (.slice B2 t.eqs.length d2) = w9 at o2 hkk hsz9 hm9 ⊢
  have k0 : w9.cell? ⟨w.heap.size + 1, 0, none⟩ = some (.int .i64 t.over.sorts) := hm9.cr 0
  have k1 : w9.cell? ⟨w.heap.size + 1, 1, none⟩ = some (.slice B0 t.over.ops.length d0) := hm9.cr 1
  have k2 : w9.cell? ⟨w.heap.size + 1, 2, none⟩ = some (.slice B2 t.eqs.length d2) := hm9.cr 2
  clear q0 q1 q2 q3 q4 q5 q6 q7 q8 q9
  refine bodyPost_ret (v := .agg #[.int .i64 t.over.sorts, .slice B0 t.over.ops.length d0, .slice B2 t.eqs.length d2]) (by simp [results, Try.results33, go_sem, k0, k1, k2]) rfl ?_
  exact ⟨_, rfl, ⟨_, _, rfl, w5, W.heap.size, by omega, HM5sz.out, hsz9, HO5.out, fun k h1 h2 => hkk k (by omega) h2, o2⟩, hm9.b⟩

theorem eqTheory_is (v v' : Value) (a b : MThy) (w : World) (r : Bool) (hr : sameT a b = r) (h : RThy w v a) (h' : RThy w v' b) :
    Calls Try.prog 40 #[v, v'] w fun e w' => e = .returned (.bool r) ∧ Below w.heap.size w w' := by
  subst hr
  obtain ⟨Aaa, caa, Aab, cab, rfl⟩ := h.form
  obtain ⟨Aba, cba, Abb, cbb, rfl⟩ := h'.form
  have hb : Below w.heap.size w ((w.alloc (.cells #[.int .i64 a.over.sorts, .slice Aaa a.over.ops.length caa, .slice Aab a.eqs.length cab] 36)).alloc (.cells #[.int .i64 b.over.sorts, .slice Aba b.over.ops.length cba, .slice Abb b.eqs.length cbb] 36)) := (below_alloc _ _).alloc (by simp) _
  have HB := Lib.hid hb
  have hsz : ((w.alloc (.cells #[.int .i64 a.over.sorts, .slice Aaa a.over.ops.length caa, .slice Aab a.eqs.length cab] 36)).alloc (.cells #[.int .i64 b.over.sorts, .slice Aba b.over.ops.length cba, .slice Abb b.eqs.length cbb] 36)).heap.size = w.heap.size + 2 := by simp
  have Ha := Lib.hid (h.keep hb)
  have a0 := cell_keep (below_alloc (w.alloc (.cells #[.int .i64 a.over.sorts, .slice Aaa a.over.ops.length caa, .slice Aab a.eqs.length cab] 36)) (.cells #[.int .i64 b.over.sorts, .slice Aba b.over.ops.length cba, .slice Abb b.eqs.length cbb] 36)) (bx_at (w) #[.int .i64 a.over.sorts, .slice Aaa a.over.ops.length caa, .slice Aab a.eqs.length cab] 36 (k := 0) rfl)
  have a1 := cell_keep (below_alloc (w.alloc (.cells #[.int .i64 a.over.sorts, .slice Aaa a.over.ops.length caa, .slice Aab a.eqs.length cab] 36)) (.cells #[.int .i64 b.over.sorts, .slice Aba b.over.ops.length cba, .slice Abb b.eqs.length cbb] 36)) (bx_at (w) #[.int .i64 a.over.sorts, .slice Aaa a.over.ops.length caa, .slice Aab a.eqs.length cab] 36 (k := 1) rfl)
  have a2 := cell_keep (below_alloc (w.alloc (.cells #[.int .i64 a.over.sorts, .slice Aaa a.over.ops.length caa, .slice Aab a.eqs.length cab] 36)) (.cells #[.int .i64 b.over.sorts, .slice Aba b.over.ops.length cba, .slice Abb b.eqs.length cbb] 36)) (bx_at (w) #[.int .i64 a.over.sorts, .slice Aaa a.over.ops.length caa, .slice Aab a.eqs.length cab] 36 (k := 2) rfl)
  have Hb := Lib.hid (h'.keep hb)
  have b0 := bx_at (w.alloc (.cells #[.int .i64 a.over.sorts, .slice Aaa a.over.ops.length caa, .slice Aab a.eqs.length cab] 36)) #[.int .i64 b.over.sorts, .slice Aba b.over.ops.length cba, .slice Abb b.eqs.length cbb] 36 (k := 0) rfl
  have b1 := bx_at (w.alloc (.cells #[.int .i64 a.over.sorts, .slice Aaa a.over.ops.length caa, .slice Aab a.eqs.length cab] 36)) #[.int .i64 b.over.sorts, .slice Aba b.over.ops.length cba, .slice Abb b.eqs.length cbb] 36 (k := 1) rfl
  have b2 := bx_at (w.alloc (.cells #[.int .i64 a.over.sorts, .slice Aaa a.over.ops.length caa, .slice Aab a.eqs.length cab] 36)) #[.int .i64 b.over.sorts, .slice Aba b.over.ops.length cba, .slice Abb b.eqs.length cbb] 36 (k := 2) rfl
  simp only [World.size_alloc] at b0 b1 b2
  generalize hW : (w.alloc (.cells #[.int .i64 a.over.sorts, .slice Aaa a.over.ops.length caa, .slice Aab a.eqs.length cab] 36)).alloc (.cells #[.int .i64 b.over.sorts, .slice Aba b.over.ops.length cba, .slice Abb b.eqs.length cbb] 36) = W at HB hsz Ha a0 a1 a2 Hb b0 b1 b2
  clear hb h h'
  obtain ⟨-, r1, r2⟩ := Ha.out.of
  obtain ⟨-, k1, k2⟩ := Hb.out.of
  have R1 := Lib.hid (show RSig W (.agg #[.int .i64 a.over.sorts, .slice Aaa a.over.ops.length caa]) a.over from ⟨_, rfl, r1⟩)
  have K1 := Lib.hid (show RSig W (.agg #[.int .i64 b.over.sorts, .slice Aba b.over.ops.length cba]) b.over from ⟨_, rfl, k1⟩)
  have R2 := Lib.hid r2
  have K2 := Lib.hid k2
  clear r1 r2 k1 k2
  cases x0 : sameS a.over b.over with
  | false =>
    have X0 := Lib.hid x0
    clear x0
    go_enter Try.func40, Try.ntmps40
    go_wp2_with fail
    clear hW
    refine (eqSig_is _ _ _ _ _ _ X0.out R1.out K1.out).mono ?_
    rintro e w1 ⟨rfl, hd⟩
    go_wp2
    go_ret
    exact ⟨ret_bool (by unfold sameT; rw [X0.out]; rfl), sz_keep HB.out hd⟩
  | true =>
    have X0 := Lib.hid x0
    clear x0
    obtain ⟨r, hr⟩ : ∃ r, sameEs a.eqs b.eqs = r := ⟨_, rfl⟩
    have HR := Lib.hid hr
    clear hr
    go_enter Try.func40, Try.ntmps40
    go_wp2_with fail
    clear hW
    refine (eqSig_is _ _ _ _ _ _ X0.out R1.out K1.out).mono ?_
    rintro e w1 ⟨rfl, hb⟩
    have HB1 := Lib.hid (sz_keep HB.out hb)
    have m1 := cell_keep hb a2
    have m2 := cell_keep hb b2
    have R2' := Lib.hid (R2.out.keep hb)
    have K2' := Lib.hid (K2.out.keep hb)
    clear hb a0 a1 a2 b0 b1 b2
    go_wp2_with fail
    refine (eqEqS_any _ _ _ _ _ R2'.out K2'.out).mono ?_
    rw [HR.out]
    rintro e w2 ⟨rfl, hb⟩
    have HB2 := Lib.hid (sz_keep HB1.out hb)
    clear hb m1 m2
    cases r with
    | false =>
      go_wp2
      go_ret
      exact ⟨ret_bool (by unfold sameT; rw [X0.out, HR.out]; rfl), HB2.out⟩
    | true =>
      go_wp2
      go_ret
      exact ⟨ret_bool (by unfold sameT; rw [X0.out, HR.out]; rfl), HB2.out⟩
end

section
open Go.RowKit
set_option linter.unusedVariables false

def RThys (w : World) (v : Value) (ts : List MThy) : Prop :=
  ∃ A c, v = .slice A ts.length c ∧ ts.length ≤ c ∧ c ≤ maxLen ∧ ∀ j t, ts[j]? = some t → ∃ b o u x, A = some ⟨b, o, none⟩ ∧
    w.cell? ⟨b, o + j * 3, none⟩ = some (.int .i64 t.over.sorts) ∧ w.cell? ⟨b, o + j * 3 + 1, none⟩ = some u ∧ w.cell? ⟨b, o + j * 3 + 2, none⟩ = some x ∧ RThy w (.agg #[.int .i64 t.over.sorts, u, x]) t
def SmallTs (ts : List MThy) : Prop := ∀ t ∈ ts, SmallT t
def FitsTs (ts : List MThy) : Prop := ts.length ≤ 1048576 ∧ ∀ t ∈ ts, FitsT t
theorem sameT_eq {a b : MThy} : sameT a b = true ↔ a = b := by
  obtain ⟨⟨x, y⟩, z⟩ := a
  obtain ⟨⟨x', y'⟩, z'⟩ := b
  unfold sameT sameS sameR
  simp [sameEs_eq, and_assoc]
def sameTs : List MThy → List MThy → Bool
  | [], [] => true
  | a :: xs, b :: ys => sameT a b && sameTs xs ys
  | _, _ => false
theorem sameTs_eq {xs ys : List MThy} : sameTs xs ys = true ↔ xs = ys := by
  induction xs generalizing ys with
  | nil => cases ys <;> simp [sameTs]
  | cons a xs ih => cases ys with
    | nil => simp [sameTs]
    | cons b ys => simp [sameTs, sameT_eq, ih]
theorem sameTs_self (xs : List MThy) : sameTs xs xs = true := sameTs_eq.2 rfl
section
variable {w w' : World} {v : Value} {ts : List MThy}
theorem RThys.keep (h : RThys w v ts) (hb : Below w.heap.size w w') : RThys w' v ts := by
  obtain ⟨A, c, e, h1, h2, h3⟩ := h
  refine ⟨A, c, e, h1, h2, fun j t hj => ?_⟩
  obtain ⟨b, o, u, x, e, c0, c1, c2, r⟩ := h3 j t hj
  exact ⟨b, o, u, x, e, cell_keep hb c0, cell_keep hb c1, cell_keep hb c2, r.keep hb⟩
theorem RThys.len (h : RThys w v ts) : ts.length ≤ 9223372036854775807 := by
  obtain ⟨A, c, e, h1, h2, h3⟩ := h; rw [maxLen_eq] at h2; omega
theorem RThys.nil (w : World) : RThys w (.slice none 0 0) [] := ⟨none, 0, rfl, Nat.le_refl _, Nat.zero_le _, fun j x h => by simp at h⟩
theorem RThys.form (h : RThys w v ts) : ∃ A c, v = .slice A ts.length c ∧ ts.length ≤ c ∧ c ≤ 9223372036854775807 := by
  obtain ⟨A, c, e, h1, h2, h3⟩ := h; exact ⟨A, c, e, h1, h2⟩
theorem RThys.at_ (h : RThys w v ts) {k : Nat} (hk : k < ts.length) : ∃ b o c u x, v = .slice (some ⟨b, o, none⟩) ts.length c ∧
    w.cell? ⟨b, o + k * 3, none⟩ = some (.int .i64 ts[k].over.sorts) ∧ w.cell? ⟨b, o + k * 3 + 1, none⟩ = some u ∧ w.cell? ⟨b, o + k * 3 + 2, none⟩ = some x ∧ RThy w (.agg #[.int .i64 ts[k].over.sorts, u, x]) ts[k] := by
  obtain ⟨A, c, e, h1, h2, h3⟩ := h
  obtain ⟨b, o, u, x, rfl, r⟩ := h3 k ts[k] (List.getElem?_eq_getElem hk)
  exact ⟨b, o, c, u, x, e, r⟩
end

/-- a theory that was made between two sizes, as it was -/
def InTh (w : World) (r : Nat × Nat) (v : Value) (t : MThy) : Prop := ∃ wc : World, wc.heap.size = r.2 ∧ OThy wc r.1 v t ∧ ∀ k, r.1 ≤ k → k < r.2 → w.heap[k]? = wc.heap[k]?
theorem InTh.same {w w' : World} {r : Nat × Nat} {v : Value} {t : MThy} (h : InTh w r v t) (hk : ∀ k, r.1 ≤ k → k < r.2 → w'.heap[k]? = w.heap[k]?) : InTh w' r v t := by
  obtain ⟨wc, h1, h2, h3⟩ := h
  exact ⟨wc, h1, h2, fun k a b => (hk k a b).trans (h3 k a b)⟩
theorem InTh.thy {w : World} {r : Nat × Nat} {v : Value} {t : MThy} (h : InTh w r v t) (hr : r.2 ≤ w.heap.size) : OThy w r.1 v t := by
  obtain ⟨wc, h1, h2, h3⟩ := h
  exact h2.same (by omega) fun k a b => h3 k a (by omega)

/-- a list of theories that a call has made: block g with its cells; each theory in a range of its own -/
def OThys (w : World) (B : Nat) (v : Value) (ts : List MThy) : Prop :=
  ∃ (g c : Nat) (cur : Array Value) (rg : Nat → Nat × Nat), v = .slice (some ⟨g, 0, none⟩) ts.length c ∧ B ≤ g ∧ w.heap[g]? = some (.cells cur 36 (0, 0)) ∧ ts.length ≤ c ∧ c ≤ 9223372036854775807 ∧ cur.size = c * 3 ∧
    (∀ j t, ts[j]? = some t → ∃ u x, cur[j * 3]? = some (.int .i64 t.over.sorts) ∧ cur[j * 3 + 1]? = some u ∧ cur[j * 3 + 2]? = some x ∧ InTh w (rg j) (.agg #[.int .i64 t.over.sorts, u, x]) t ∧ B ≤ (rg j).1 ∧ (rg j).2 ≤ w.heap.size ∧ (g < (rg j).1 ∨ (rg j).2 ≤ g)) ∧
    (∀ i j, i < j → j < ts.length → (rg i).2 ≤ (rg j).1 ∨ (rg j).2 ≤ (rg i).1)
section
variable {w w' : World} {B B' : Nat} {v : Value} {ts : List MThy}
theorem OThys.same (h : OThys w B v ts) (hs : w.heap.size ≤ w'.heap.size) (hk : ∀ k, B ≤ k → k < w.heap.size → w'.heap[k]? = w.heap[k]?) : OThys w' B v ts := by
  obtain ⟨g, c, cur, rg, e, h1, h2, h3, h4, h5, h6, h7⟩ := h
  refine ⟨g, c, cur, rg, e, h1, (hk g h1 (Array.getElem?_eq_some_iff.1 h2).1).trans h2, h3, h4, h5, fun j t hj => ?_, h7⟩
  obtain ⟨u, x, c0, c1, c2, r, a, b, d⟩ := h6 j t hj
  exact ⟨u, x, c0, c1, c2, r.same fun k k1 k2 => hk k (by omega) (by omega), a, by omega, d⟩
theorem OThys.keep (h : OThys w B v ts) (hb : Below w.heap.size w w') : OThys w' B v ts := h.same hb.size fun k _ hk => hb.block k hk
theorem OThys.base (h : OThys w B v ts) (hB : B' ≤ B) : OThys w B' v ts := by
  obtain ⟨g, c, cur, rg, e, h1, h2, h3, h4, h5, h6, h7⟩ := h
  refine ⟨g, c, cur, rg, e, by omega, h2, h3, h4, h5, fun j t hj => ?_, h7⟩
  obtain ⟨u, x, c0, c1, c2, r, a, b, d⟩ := h6 j t hj
  exact ⟨u, x, c0, c1, c2, r, by omega, b, d⟩
theorem OThys.reads (h : OThys w B v ts) : RThys w v ts := by
  obtain ⟨g, c, cur, rg, e, h1, h2, h3, h4, h5, h6, h7⟩ := h
  refine ⟨_, c, e, h3, by rw [maxLen_eq]; exact h4, fun j t hj => ?_⟩
  obtain ⟨u, x, c0, c1, c2, r, a, b, d⟩ := h6 j t hj
  exact ⟨g, 0, u, x, rfl, (blk_cell h2 _).trans (by rw [Nat.zero_add]; exact c0), (blk_cell h2 _).trans (by rw [Nat.zero_add]; exact c1), (blk_cell h2 _).trans (by rw [Nat.zero_add]; exact c2), (r.thy b).reads⟩
/-- the block's store of a theory's three cells, below a base -/
theorem OThys.setLow {b i : Nat} {x : Value} (h : OThys w B v ts) (hb : b < B) : OThys (w.setCell ⟨b, i, none⟩ x) B v ts :=
  h.same (by simp [World.setCell]) fun k hk _ => Below.heap_setCell w ⟨b, i, none⟩ x k (by show k ≠ b; omega)
end
theorem Try.tinfo_Theory : (Try.prog.info? 36).map (fun i => (i.zero, i.size, i.bytes)) = some (some (.agg #[.int .i64 0, .slice none 0 0, .slice none 0 0]), 3, 56) := by kernel_rfl

theorem setT_old {cur : Array Value} {m i : Nat} {a b c : Value} (hi : i < m ∨ m + 2 < i) : (((cur.setIfInBounds m a).setIfInBounds (m + 1) b).setIfInBounds (m + 2) c)[i]? = cur[i]? := by
  rw [Array.getElem?_setIfInBounds, if_neg (by omega), Array.getElem?_setIfInBounds, if_neg (by omega), Array.getElem?_setIfInBounds, if_neg (by omega)]
theorem setT_new {cur : Array Value} {m : Nat} {a b c : Value} (h : m + 2 < cur.size) :
    (((cur.setIfInBounds m a).setIfInBounds (m + 1) b).setIfInBounds (m + 2) c)[m]? = some a ∧ (((cur.setIfInBounds m a).setIfInBounds (m + 1) b).setIfInBounds (m + 2) c)[m + 1]? = some b ∧
    (((cur.setIfInBounds m a).setIfInBounds (m + 1) b).setIfInBounds (m + 2) c)[m + 2]? = some c := by
  refine ⟨?_, ?_, ?_⟩
  · rw [Array.getElem?_setIfInBounds, if_neg (by omega), Array.getElem?_setIfInBounds, if_neg (by omega), Array.getElem?_setIfInBounds, if_pos rfl, if_pos (by omega)]
  · rw [Array.getElem?_setIfInBounds, if_neg (by omega), Array.getElem?_setIfInBounds, if_pos rfl, if_pos (by simp; omega)]
  · rw [Array.getElem?_setIfInBounds, if_pos rfl, if_pos (by simp; omega)]

/-- a list of theories that is being filled: k of them are done -/
def FillTh (w wr : World) (ts : List MThy) (k : Nat) : Prop :=
  ∃ (cur : Array Value) (rg : Nat → Nat × Nat), wr.heap[w.heap.size]? = some (.cells cur 36 (0, 0)) ∧ cur.size = ts.length * 3 ∧
    (∀ j t, j < k → ts[j]? = some t → ∃ u x, cur[j * 3]? = some (.int .i64 t.over.sorts) ∧ cur[j * 3 + 1]? = some u ∧ cur[j * 3 + 2]? = some x ∧ InTh wr (rg j) (.agg #[.int .i64 t.over.sorts, u, x]) t ∧ w.heap.size < (rg j).1 ∧ (rg j).2 ≤ wr.heap.size) ∧
    (∀ i j, i < j → j < k → (rg i).2 ≤ (rg j).1) ∧ Below w.heap.size w wr
section
variable {w wr w1 : World} {ts : List MThy} {k : Nat}
theorem FillTh.start (w : World) (ts : List MThy) (cur : Array Value) (h : cur.size = ts.length * 3) : FillTh w (w.alloc (.cells cur 36)) ts 0 :=
  ⟨cur, fun _ => (0, 0), heap_alloc_new w _, h, fun j t hj => by omega, fun i j _ hj => by omega, below_alloc _ _⟩
theorem FillTh.bel (h : FillTh w wr ts k) : Below w.heap.size w wr := by obtain ⟨_, _, _, _, _, _, hb⟩ := h; exact hb
theorem FillTh.cell (h : FillTh w wr ts k) (hb : Below wr.heap.size wr w1) {j : Nat} (hj : j < ts.length * 3) : ∃ u, w1.cell? ⟨w.heap.size, j, none⟩ = some u ∧ w1.frozen? ⟨w.heap.size, j, none⟩ = false := by
  obtain ⟨cur, rg, h1, h2, h3, h4, h5⟩ := h
  have h1' := (hb.block _ (Array.getElem?_eq_some_iff.1 h1).1).trans h1
  exact ⟨cur[j]'(by omega), (blk_cell h1' j).trans (Array.getElem?_eq_getElem (by omega)), blk_free h1' j⟩
theorem FillTh.put (h : FillTh w wr ts k) (hk : k < ts.length) (hb : Below wr.heap.size wr w1) {u x : Value} (hp : OThy w1 wr.heap.size (.agg #[.int .i64 ts[k].over.sorts, u, x]) ts[k]) :
    FillTh w (((w1.setCell ⟨w.heap.size, k * 3, none⟩ (.int .i64 ts[k].over.sorts)).setCell ⟨w.heap.size, k * 3 + 1, none⟩ u).setCell ⟨w.heap.size, k * 3 + 2, none⟩ x) ts (k + 1) := by
  obtain ⟨cur, rg, h1, h2, h3, h4, h5⟩ := h
  have hl := (Array.getElem?_eq_some_iff.1 h1).1
  have h1' := (hb.block _ hl).trans h1
  have hs := hb.size
  have oth : ∀ b' : Nat, b' ≠ w.heap.size → (((w1.setCell ⟨w.heap.size, k * 3, none⟩ (.int .i64 ts[k].over.sorts)).setCell ⟨w.heap.size, k * 3 + 1, none⟩ u).setCell ⟨w.heap.size, k * 3 + 2, none⟩ x).heap[b']? = w1.heap[b']? := fun b' hb' => by
    rw [Below.heap_setCell _ ⟨w.heap.size, k * 3 + 2, none⟩ _ b' hb', Below.heap_setCell _ ⟨w.heap.size, k * 3 + 1, none⟩ _ b' hb', Below.heap_setCell _ ⟨w.heap.size, k * 3, none⟩ _ b' hb']
  have hsz : (((w1.setCell ⟨w.heap.size, k * 3, none⟩ (.int .i64 ts[k].over.sorts)).setCell ⟨w.heap.size, k * 3 + 1, none⟩ u).setCell ⟨w.heap.size, k * 3 + 2, none⟩ x).heap.size = w1.heap.size := by simp [World.setCell]
  refine ⟨_, fun j => if j = k then (wr.heap.size, w1.heap.size) else rg j, blk_set (blk_set (blk_set h1' _ _) _ _) _ _, by simpa using h2, fun j t hj htj => ?_, fun i j hij hj => ?_, (((h5.trans (hb.mono (by omega))).setCell (p := ⟨w.heap.size, k * 3, none⟩) (Nat.le_refl _) _).setCell (p := ⟨w.heap.size, k * 3 + 1, none⟩) (Nat.le_refl _) _).setCell (p := ⟨w.heap.size, k * 3 + 2, none⟩) (Nat.le_refl _) _⟩
  · by_cases hjk : j = k
    · subst hjk
      rw [List.getElem?_eq_getElem hk] at htj
      cases htj
      obtain ⟨a, b, c⟩ := setT_new (cur := cur) (m := j * 3) (a := .int .i64 ts[j].over.sorts) (b := u) (c := x) (by omega)
      refine ⟨u, x, a, b, c, ?_, by simp; omega, by rw [hsz]; simp⟩
      simp only [if_true]
      exact ⟨w1, rfl, hp, fun n n1 n2 => oth n (by simp only at n1; omega)⟩
    · obtain ⟨u', x', a, b, c, r, lo, hi⟩ := h3 j t (by omega) htj
      refine ⟨u', x', by rw [setT_old (by omega)]; exact a, by rw [setT_old (by omega)]; exact b, by rw [setT_old (by omega)]; exact c, ?_, by simp only [if_neg hjk]; exact lo, by rw [hsz]; simp only [if_neg hjk]; omega⟩
      simp only [if_neg hjk]
      exact r.same fun n n1 n2 => (oth n (by omega)).trans (hb.block n (by omega))
  · have hik : ¬ i = k := by omega
    by_cases hjk : j = k
    · subst hjk
      simp only [if_neg hik, if_true]
      obtain ⟨u', x', a, b, c, r, lo, hi⟩ := h3 i ts[i] hij (List.getElem?_eq_getElem (by omega))
      exact hi
    · simp only [if_neg hik, if_neg hjk]
      exact h4 i j hij (by omega)
theorem FillTh.done (h : FillTh w wr ts k) (hk : k = ts.length) (hm : ts.length ≤ 9223372036854775807) : OThys wr w.heap.size (.slice (some ⟨w.heap.size, 0, none⟩) ts.length ts.length) ts ∧ Below w.heap.size w wr := by
  obtain ⟨cur, rg, h1, h2, h3, h4, h5⟩ := h
  subst hk
  refine ⟨⟨w.heap.size, ts.length, cur, rg, rfl, Nat.le_refl _, h1, Nat.le_refl _, hm, h2, fun j t hj => ?_, fun i j hij hj => .inl (h4 i j hij hj)⟩, h5⟩
  obtain ⟨u, x, a, b, c, r, lo, hi⟩ := h3 j t (List.getElem?_eq_some_iff.1 hj).1 hj
  exact ⟨u, x, a, b, c, r, by omega, hi, .inl lo⟩
end

set_option maxRecDepth 100000 in
theorem szTheoryS_any (v : Value) (ts : List MThy) (left : Int) (w : World) (h : RThys w v ts) (h0 : 0 ≤ left) (h1 : left ≤ 1048576) :
    Calls Try.prog 50 #[v, .int .i64 left] w fun e w' => ∃ r : Int, e = .returned (.int .i64 r) ∧ (r < 0 ∨ (0 ≤ r ∧ r ≤ left ∧ FitsTs ts)) ∧ Below w.heap.size w w' := by
  have H := Lib.hid h
  have hn := h.len
  obtain ⟨A, c, rfl, -⟩ := h.form
  clear h
  by_cases hl : left - (ts.length : Int) < 0
  · go_enter Try.func50, Try.ntmps50
    go_wp2
    go_ret
    exact ⟨-1, rfl, .inl (by omega), Below.refl _ _⟩
  · go_enter Try.func50, Try.ntmps50
    go_wp2
    go_loopw [1, 5] (fun l i wr => ∃ k : Nat, ∃ r : Int, k ≤ ts.length ∧ i = .int .i64 k ∧ l = .int .i64 r ∧ 0 ≤ r ∧ r ≤ left ∧ (∀ t ∈ ts.take k, FitsT t) ∧ Below w.heap.size w wr) (fun _ i _ => ts.length - (intOf i).toNat)
    case atStart => exact ⟨0, _, Nat.zero_le _, rfl, rfl, by omega, by omega, by simp, Below.refl _ _⟩
    case round =>
      obtain ⟨k, r, hk, rfl, rfl, hr0, hr1, hb0, hbw⟩ := hrel
      have hb := Lib.hid hb0
      have HBW := Lib.hid hbw
      clear hb0 hbw
      by_cases hlt : k < ts.length
      · obtain ⟨b, o, c', u, x, e, c0, c1, c2, q0⟩ := (H.out.keep HBW.out).at_ hlt
        cases e
        have HT := Lib.hid (List.take_succ_eq_append_getElem hlt)
        generalize ts[k] = t at q0 c0 HT
        have HI := Lib.hid q0
        obtain ⟨A0, d0, A1, d1, e⟩ := q0.form
        obtain ⟨rfl, rfl⟩ : u = .slice A0 t.over.ops.length d0 ∧ x = .slice A1 t.eqs.length d1 := by
          injection e with e
          simpa using e
        clear q0 e
        go_wp2_with fail
        refine (szTheory_any _ t _ _ HI.out hr0 (by omega)).mono ?_
        rintro e' w1 ⟨r', rfl, hr', hb1⟩
        have HB1 := Lib.hid (sz_keep HBW.out hb1)
        clear hb1 c0 c1 c2
        by_cases hneg : r' < 0
        · clear hr'
          go_wp2
          go_ret
          exact ⟨-1, rfl, .inl (by omega), HB1.out⟩
        · obtain ⟨h2, h3, h4⟩ := hr'.resolve_left hneg
          have HR := Lib.hid (And.intro h3 h4)
          clear h3 h4 hr'
          go_wp2
          go_roundw
          case rel =>
            refine ⟨k + 1, r', by omega, by go_num, rfl, h2, by have := HR.out.1; omega, ?_, HB1.out⟩
            rw [HT.out]
            intro x hx
            rcases List.mem_append.1 hx with hx | hx
            · exact hb.out x hx
            · simp at hx; subst hx; exact HR.out.2
          case measure => simp [intOf]; omega
      · go_wp2
        go_ret
        have h := hb.out
        rw [take_all (by omega)] at h
        exact ⟨r, rfl, .inr ⟨hr0, hr1, by omega, h⟩, HBW.out⟩

set_option maxRecDepth 100000 in
theorem toTheoryS_any (v : Value) (ts : List MThy) (w : World) (h : RThys w v ts) (hs : FitsTs ts) :
    Calls Try.prog 52 #[v] w fun e w' => ∃ u, e = .returned u ∧ OThys w' w.heap.size u ts ∧ Below w.heap.size w w' := by
  have H := Lib.hid h
  have HS := Lib.hid hs
  obtain ⟨A, c, rfl, -⟩ := h.form
  have hlen := hs.1
  clear h hs
  have hmk := run_make_wide 37 36 _ 3 56 Try.underlying37 Try.tinfo_Theory .i64 .i64 ts.length (by omega) (by omega)
  go_enter Try.func52, Try.ntmps52
  go_wp2
  go_loopw [4] (fun i wr => ∃ k : Nat, k ≤ ts.length ∧ i = .int .i64 k ∧ FillTh w wr ts k) (fun i _ => ts.length - (intOf i).toNat)
  case atStart => exact ⟨0, Nat.zero_le _, rfl, FillTh.start w _ _ (by simp [madeCells])⟩
  case round =>
    obtain ⟨k, hk, rfl, hf⟩ := hrel
    have HF := Lib.hid hf
    clear hf hmk
    by_cases hlt : k < ts.length
    · obtain ⟨b, o, c', u, x, e, c0, c1, c2, q0⟩ := (H.out.keep HF.out.bel).at_ hlt
      cases e
      have HFP := Lib.hid (HS.out.2 _ (List.getElem_mem hlt))
      have HPUT := Lib.hid (fun (w1 : World) (hb : Below wr.heap.size wr w1) (u x : Value) (hp : OThy w1 wr.heap.size (.agg #[.int .i64 ts[k].over.sorts, u, x]) ts[k]) => HF.out.put hlt hb hp)
      generalize ts[k] = t at q0 c0 HFP HPUT
      have HI := Lib.hid q0
      obtain ⟨A0, d0, A1, d1, e⟩ := q0.form
      obtain ⟨rfl, rfl⟩ : u = .slice A0 t.over.ops.length d0 ∧ x = .slice A1 t.eqs.length d1 := by
        injection e with e
        simpa using e
      clear q0 e
      go_wp2_with fail
      refine (toTheory_any _ t _ HI.out HFP.out).mono ?_
      rintro e' w1 ⟨u, rfl, ho, hb⟩
      obtain ⟨B0, g0, B1, g1, rfl⟩ := ho.reads.form
      obtain ⟨z0, m0, n0⟩ := HF.out.cell hb (j := k * 3) (by omega)
      obtain ⟨z1, m1, n1⟩ := HF.out.cell hb (j := k * 3 + 1) (by omega)
      obtain ⟨z2, m2, n2⟩ := HF.out.cell hb (j := k * 3 + 2) (by omega)
      have HN := Lib.hid (HPUT.out _ hb _ _ ho)
      clear ho hb c0 c1 c2
      go_wp2
      go_roundw
      case rel => exact ⟨k + 1, by omega, by go_num, HN.out⟩
      case measure => simp [intOf]; omega
    · have hkn : k = ts.length := by omega
      go_wp2
      go_ret
      obtain ⟨r1, r2⟩ := HF.out.done hkn (by omega)
      exact ⟨_, rfl, r1, r2⟩

theorem takeT_bad {xs ys : List MThy} {k : Nat} (hx : k < xs.length) (hy : k < ys.length) (he : sameT xs[k] ys[k] = false) : sameTs xs ys = false := by
  cases h : sameTs xs ys with
  | false => rfl
  | true =>
    have := sameTs_eq.1 h
    subst this
    rw [sameT_self] at he
    cases he
set_option maxRecDepth 100000 in
theorem eqTheoryS_any (v v' : Value) (xs ys : List MThy) (w : World) (h : RThys w v xs) (h' : RThys w v' ys) :
    Calls Try.prog 54 #[v, v'] w fun e w' => e = .returned (.bool (sameTs xs ys)) ∧ Below w.heap.size w w' := by
  have H := Lib.hid h
  have H' := Lib.hid h'
  have hn := h.len
  have hn' := h'.len
  obtain ⟨A, c, rfl, -⟩ := h.form
  obtain ⟨A', c', rfl, -⟩ := h'.form
  clear h h'
  by_cases hl : xs.length = ys.length
  · have hl' : ((xs.length : Int) != (ys.length : Int)) = false := by simp [hl]
    have HL := Lib.hid hl
    have hle : xs.length ≤ ys.length := by omega
    have hge : ys.length ≤ xs.length := by omega
    clear hl
    go_enter Try.func54, Try.ntmps54
    go_wp2
    go_loopw [5] (fun i wr => ∃ k : Nat, k ≤ xs.length ∧ i = .int .i64 k ∧ xs.take k = ys.take k ∧ Below w.heap.size w wr) (fun i _ => xs.length - (intOf i).toNat)
    case atStart => exact ⟨0, Nat.zero_le _, rfl, rfl, Below.refl _ _⟩
    case round =>
      obtain ⟨k, hk, rfl, hb0, hd⟩ := hrel
      have hb := Lib.hid hb0
      have HD := Lib.hid hd
      clear hb0 hd
      by_cases hlt : k < xs.length
      · obtain ⟨b, o, c3, u, x, e, c00, c01, c02, q0⟩ := (H.out.keep HD.out).at_ hlt
        cases e
        obtain ⟨b', o', c4, u', x', e, d00, d01, d02, p0⟩ := (H'.out.keep HD.out).at_ (show k < ys.length by omega)
        cases e
        have hs1 : (k : Int) < (xs.length : Int) := by omega
        have hs2 : (k : Int) < (ys.length : Int) := by omega
        have HT := Lib.hid (take_succ_eq hlt (show k < ys.length by omega) hb.out)
        have HN := Lib.hid (takeT_bad hlt (show k < ys.length by omega))
        generalize xs[k] = t at q0 c00 HT HN
        generalize ys[k]'(by omega) = y at p0 d00 HT HN
        have HX := Lib.hid q0
        have HY := Lib.hid p0
        obtain ⟨A0, g0, A1, g1, e⟩ := q0.form
        obtain ⟨rfl, rfl⟩ : u = .slice A0 t.over.ops.length g0 ∧ x = .slice A1 t.eqs.length g1 := by
          injection e with e
          simpa using e
        clear e
        obtain ⟨B0, h0, B1, h1, e⟩ := p0.form
        obtain ⟨rfl, rfl⟩ : u' = .slice B0 y.over.ops.length h0 ∧ x' = .slice B1 y.eqs.length h1 := by
          injection e with e
          simpa using e
        clear q0 p0 e
        have ea := World.new_ne wr _ c00
        have eb := World.new_ne wr _ d00
        cases hxy : sameT t y with
        | true =>
          have HXY := Lib.hid hxy
          clear hxy
          go_wp2_with fail
          go_region_held3 (fun w' => w'.cell? ⟨b, o + k * 3, none⟩ = some (.int .i64 t.over.sorts) ∧ w'.cell? ⟨b, o + k * 3 + 1, none⟩ = some (.slice A0 t.over.ops.length g0) ∧ w'.cell? ⟨b, o + k * 3 + 2, none⟩ = some (.slice A1 t.eqs.length g1) ∧ w'.cell? ⟨b', o' + k * 3, none⟩ = some (.int .i64 y.over.sorts) ∧ w'.cell? ⟨b', o' + k * 3 + 1, none⟩ = some (.slice B0 y.over.ops.length h0) ∧ w'.cell? ⟨b', o' + k * 3 + 2, none⟩ = some (.slice B1 y.eqs.length h1)) (first | go_keep)
            (first
              | (go_at_call 40; refine (eqTheory_is _ _ _ _ wr.drew _ HXY.out (HX.out.keep (eq_drew _)) (HY.out.keep (eq_drew _))).mono ?_; rintro e w2 ⟨rfl, hb2⟩; have HB2 := Lib.hid (eq_undrew hb2); have j0 := cell_keep HB2.out c00; have j1 := cell_keep HB2.out c01; have j2 := cell_keep HB2.out c02; have j3 := cell_keep HB2.out d00; have j4 := cell_keep HB2.out d01; have j5 := cell_keep HB2.out d02; clear hb2))
          have HBN := Lib.hid (sz_keep HD.out HB2.out)
          clear c00 c01 c02 d00 d01 d02 j0 j1 j2 j3 j4 j5 ea eb
          go_wp2
          go_roundw
          case rel => exact ⟨k + 1, by omega, by go_num, HT.out (sameT_eq.1 HXY.out), HBN.out⟩
          case measure => simp [intOf]; omega
        | false =>
          have HXY := Lib.hid hxy
          clear hxy
          go_wp2_with fail
          go_region_held3 (fun w' => w'.cell? ⟨b, o + k * 3, none⟩ = some (.int .i64 t.over.sorts) ∧ w'.cell? ⟨b, o + k * 3 + 1, none⟩ = some (.slice A0 t.over.ops.length g0) ∧ w'.cell? ⟨b, o + k * 3 + 2, none⟩ = some (.slice A1 t.eqs.length g1) ∧ w'.cell? ⟨b', o' + k * 3, none⟩ = some (.int .i64 y.over.sorts) ∧ w'.cell? ⟨b', o' + k * 3 + 1, none⟩ = some (.slice B0 y.over.ops.length h0) ∧ w'.cell? ⟨b', o' + k * 3 + 2, none⟩ = some (.slice B1 y.eqs.length h1)) (first | go_keep)
            (first
              | (go_at_call 40; refine (eqTheory_is _ _ _ _ wr.drew _ HXY.out (HX.out.keep (eq_drew _)) (HY.out.keep (eq_drew _))).mono ?_; rintro e w2 ⟨rfl, hb2⟩; have HB2 := Lib.hid (eq_undrew hb2); have j0 := cell_keep HB2.out c00; have j1 := cell_keep HB2.out c01; have j2 := cell_keep HB2.out c02; have j3 := cell_keep HB2.out d00; have j4 := cell_keep HB2.out d01; have j5 := cell_keep HB2.out d02; clear hb2))
          have HBN := Lib.hid (sz_keep HD.out HB2.out)
          clear c00 c01 c02 d00 d01 d02 j0 j1 j2 j3 j4 j5 ea eb
          go_wp2
          go_ret
          exact ⟨ret_bool (HN.out HXY.out).symm, HBN.out⟩
      · go_wp2
        go_ret
        have h := hb.out
        rw [take_all (by omega), take_all (by omega)] at h
        exact ⟨ret_bool (by rw [h, sameTs_self]), HD.out⟩
  · have hl' : ((xs.length : Int) != (ys.length : Int)) = true := by simp; omega
    have HL := Lib.hid hl
    clear hl
    go_enter Try.func54, Try.ntmps54
    go_wp2
    go_ret
    refine ⟨ret_bool ?_, Below.refl _ _⟩
    cases h : sameTs xs ys with
    | false => rfl
    | true => have := sameTs_eq.1 h; subst this; exact absurd rfl HL.out
theorem eqTheoryS_is (v v' : Value) (xs ys : List MThy) (w : World) (r : Bool) (hr : sameTs xs ys = r) (h : RThys w v xs) (h' : RThys w v' ys) :
    Calls Try.prog 54 #[v, v'] w fun e w' => e = .returned (.bool r) ∧ Below w.heap.size w w' := by
  subst hr; exact eqTheoryS_any v v' xs ys w h h'
end

section
open Go.RowKit
set_option linter.unusedVariables false
set_option linter.unusedSimpArgs false

structure MBench where
  now : MThy
  past : List MThy
def RBench (w : World) (v : Value) (m : MBench) : Prop := ∃ u x y, v = .agg #[.int .i64 m.now.over.sorts, u, x, y] ∧ RThy w (.agg #[.int .i64 m.now.over.sorts, u, x]) m.now ∧ RThys w y m.past
/-- a bench that a call has made: its theory lies apart from those of before -/
def OBench (w : World) (B : Nat) (v : Value) (m : MBench) : Prop := ∃ u x y, v = .agg #[.int .i64 m.now.over.sorts, u, x, y] ∧ ∃ (wc : World) (B0 : Nat), B ≤ B0 ∧ B0 ≤ wc.heap.size ∧ wc.heap.size ≤ w.heap.size ∧ OThy wc B0 (.agg #[.int .i64 m.now.over.sorts, u, x]) m.now ∧ (∀ k, B0 ≤ k → k < wc.heap.size → w.heap[k]? = wc.heap[k]?) ∧ OThys w wc.heap.size y m.past
def SmallB (m : MBench) : Prop := SmallT m.now ∧ SmallTs m.past
def FitsB (m : MBench) : Prop := FitsT m.now ∧ FitsTs m.past
def sameB (a b : MBench) : Bool := sameT a.now b.now && sameTs a.past b.past
theorem sameB_self (a : MBench) : sameB a a = true := by unfold sameB; rw [sameT_self, sameTs_self]; rfl
section
variable {w w' : World} {B B' : Nat} {v : Value} {m : MBench}
theorem RBench.keep (h : RBench w v m) (hb : Below w.heap.size w w') : RBench w' v m := by
  obtain ⟨u, x, y, rfl, h1, h2⟩ := h; exact ⟨u, x, y, rfl, h1.keep hb, h2.keep hb⟩
theorem RBench.form (h : RBench w v m) : ∃ A a B b C c, v = .agg #[.int .i64 m.now.over.sorts, .slice A m.now.over.ops.length a, .slice B m.now.eqs.length b, .slice C m.past.length c] := by
  obtain ⟨u, x, y, rfl, h1, h2⟩ := h
  obtain ⟨-, h3, h4⟩ := h1.of
  obtain ⟨A, a, rfl, -⟩ := h3.form
  obtain ⟨B, b, rfl, -⟩ := h4.form
  obtain ⟨C, c, rfl, -⟩ := h2.form
  exact ⟨_, _, _, _, _, _, rfl⟩
theorem RBench.of {n a b c : Value} (h : RBench w (.agg #[n, a, b, c]) m) : n = .int .i64 m.now.over.sorts ∧ RThy w (.agg #[n, a, b]) m.now ∧ RThys w c m.past := by
  obtain ⟨u, x, y, e, h⟩ := h
  injection e with e
  simp at e
  obtain ⟨rfl, rfl, rfl, rfl⟩ := e
  exact ⟨rfl, h⟩
theorem OBench.same (h : OBench w B v m) (hs : w.heap.size ≤ w'.heap.size) (hk : ∀ k, B ≤ k → k < w.heap.size → w'.heap[k]? = w.heap[k]?) : OBench w' B v m := by
  obtain ⟨u, x, y, rfl, wc, B0, z, a, b, c, d, e⟩ := h
  exact ⟨u, x, y, rfl, wc, B0, z, a, by omega, c, fun k h1 h2 => (hk k (by omega) (by omega)).trans (d k h1 h2), e.same hs fun k h1 h2 => hk k (by omega) h2⟩
theorem OBench.keep (h : OBench w B v m) (hb : Below w.heap.size w w') : OBench w' B v m := h.same hb.size fun k _ hk => hb.block k hk
theorem OBench.base (h : OBench w B v m) (hB : B' ≤ B) : OBench w B' v m := by
  obtain ⟨u, x, y, rfl, wc, B0, z, r⟩ := h
  exact ⟨u, x, y, rfl, wc, B0, by omega, r⟩
theorem OBench.reads (h : OBench w B v m) : RBench w v m := by
  obtain ⟨u, x, y, rfl, wc, B0, z, a, b, c, d, e⟩ := h
  exact ⟨u, x, y, rfl, (c.same b d).reads, e.reads⟩
end

set_option maxRecDepth 100000 in
theorem szBench_any (v : Value) (t : MBench) (left : Int) (w : World) (h : RBench w v t) (h0 : 0 ≤ left) (h1 : left ≤ 1048576) :
    Calls Try.prog 7 #[v, .int .i64 left] w fun e w' => ∃ r : Int, e = .returned (.int .i64 r) ∧ (r < 0 ∨ (0 ≤ r ∧ r ≤ left ∧ FitsB t)) ∧ Below w.heap.size w w' := by
  obtain ⟨Ata, cta, Atb, ctb, Atc, ctc, rfl⟩ := h.form
  have hb : Below w.heap.size w (w.alloc (.cells #[.int .i64 t.now.over.sorts, .slice Ata t.now.over.ops.length cta, .slice Atb t.now.eqs.length ctb, .slice Atc t.past.length ctc] 30)) := below_alloc _ _
  have HB := Lib.hid hb
  have hsz : (w.alloc (.cells #[.int .i64 t.now.over.sorts, .slice Ata t.now.over.ops.length cta, .slice Atb t.now.eqs.length ctb, .slice Atc t.past.length ctc] 30)).heap.size = w.heap.size + 1 := by simp
  have Ht := Lib.hid (h.keep hb)
  have t0 := bx_at (w) #[.int .i64 t.now.over.sorts, .slice Ata t.now.over.ops.length cta, .slice Atb t.now.eqs.length ctb, .slice Atc t.past.length ctc] 30 (k := 0) rfl
  have t1 := bx_at (w) #[.int .i64 t.now.over.sorts, .slice Ata t.now.over.ops.length cta, .slice Atb t.now.eqs.length ctb, .slice Atc t.past.length ctc] 30 (k := 1) rfl
  have t2 := bx_at (w) #[.int .i64 t.now.over.sorts, .slice Ata t.now.over.ops.length cta, .slice Atb t.now.eqs.length ctb, .slice Atc t.past.length ctc] 30 (k := 2) rfl
  have t3 := bx_at (w) #[.int .i64 t.now.over.sorts, .slice Ata t.now.over.ops.length cta, .slice Atb t.now.eqs.length ctb, .slice Atc t.past.length ctc] 30 (k := 3) rfl
  generalize hW : w.alloc (.cells #[.int .i64 t.now.over.sorts, .slice Ata t.now.over.ops.length cta, .slice Atb t.now.eqs.length ctb, .slice Atc t.past.length ctc] 30) = W at HB hsz Ht t0 t1 t2 t3
  clear hb h
  obtain ⟨-, r1, r2⟩ := Ht.out.of
  have R1 := Lib.hid r1
  have R2 := Lib.hid r2
  clear r1 r2
  go_enter Try.func7, Try.ntmps7
  go_wp2_with fail
  clear hW
  refine (szTheory_any _ t.now _ _ R1.out h0 h1).mono ?_
  rintro e w1 ⟨r, rfl, hr, hb⟩
  have HB1 := Lib.hid (sz_keep HB.out hb)
  have R21 := Lib.hid (R2.out.keep hb)
  have m1 := cell_keep hb t3
  clear hb t0 t1 t2 t3
  by_cases hneg : r < 0
  · clear hr
    go_wp2
    go_ret
    exact ⟨-1, rfl, .inl (by omega), HB1.out⟩
  obtain ⟨hr2, hr3, hr4⟩ := hr.resolve_left hneg
  have HR := Lib.hid hr4
  have hr5 : r ≤ 1048576 := by omega
  clear hr hr4
  go_wp2_with fail
  refine (szTheoryS_any _ t.past _ _ R21.out hr2 hr5).mono ?_
  rintro e w2 ⟨q, rfl, hr, hb⟩
  have HB2 := Lib.hid (sz_keep HB1.out hb)
  clear hb m1
  by_cases hneg2 : q < 0
  · clear hr
    go_wp2
    go_ret
    exact ⟨-1, rfl, .inl (by omega), HB2.out⟩
  obtain ⟨hr6, hr7, hr8⟩ := hr.resolve_left hneg2
  have HQ := Lib.hid hr8
  clear hr hr8
  go_wp2
  go_ret
  exact ⟨q, rfl, .inr ⟨hr6, by omega, HR.out, HQ.out⟩, HB2.out⟩

set_option maxHeartbeats 1600000 in
set_option maxRecDepth 100000 in
theorem toBench_any (v : Value) (t : MBench) (w : World) (h : RBench w v t) (hs : FitsB t) :
    Calls Try.prog 9 #[v] w fun e' w' => ∃ u, e' = .returned u ∧ OBench w' w.heap.size u t ∧ Below w.heap.size w w' := by
  obtain ⟨At, ct, Dt, et, Bt, dt, rfl⟩ := h.form
  obtain ⟨-, h1, h2⟩ := h.of
  obtain ⟨hs1, hs2⟩ := hs
  have hm := Mk.start w 30 39 #[.int .i64 t.now.over.sorts, .slice At t.now.over.ops.length ct, .slice Dt t.now.eqs.length et, .slice Bt t.past.length dt] #[.int .i64 0, .slice none 0 0, .slice none 0 0, .slice none 0 0] #[.int .i64 0, .slice none 0 0, .slice none 0 0, .slice none 0 0]
  generalize hW : ((w.alloc (.cells #[.int .i64 t.now.over.sorts, .slice At t.now.over.ops.length ct, .slice Dt t.now.eqs.length et, .slice Bt t.past.length dt] 30)).alloc (.cells #[.int .i64 0, .slice none 0 0, .slice none 0 0, .slice none 0 0] 39)).alloc (.cells #[.int .i64 0, .slice none 0 0, .slice none 0 0, .slice none 0 0] 39) = W at hm
  have H1 := Lib.hid (h1.keep hm.b)
  have H2 := Lib.hid h2
  have HS1 := Lib.hid hs1
  have HS2 := Lib.hid hs2
  have p0 : W.cell? ⟨w.heap.size, 0, none⟩ = some (.int .i64 t.now.over.sorts) := hm.ca 0
  have p1 : W.cell? ⟨w.heap.size, 1, none⟩ = some (.slice At t.now.over.ops.length ct) := hm.ca 1
  have p2 : W.cell? ⟨w.heap.size, 2, none⟩ = some (.slice Dt t.now.eqs.length et) := hm.ca 2
  have HM := Lib.hid hm
  clear h h1 h2 hm hs1 hs2
  go_enter Try.func9, Try.ntmps9
  go_wp2_with fail
  clear hW
  refine (toTheory_any _ t.now _ H1.out HS1.out).mono ?_
  rintro e w4 ⟨u0, rfl, ho, hb⟩
  have hz := HM.out.z
  have hm := HM.out.below hb
  obtain ⟨A0, c0, B0, d0, rfl⟩ := ho.reads.form
  have q0 : w4.cell? ⟨w.heap.size + 2, 0, none⟩ = some (.int .i64 0) := hm.co 0
  have q1 : w4.cell? ⟨w.heap.size + 2, 1, none⟩ = some (.slice none 0 0) := hm.co 1
  have q2 : w4.cell? ⟨w.heap.size + 2, 2, none⟩ = some (.slice none 0 0) := hm.co 2
  have f0 := hm.fo 0
  have f1 := hm.fo 1
  have f2 := hm.fo 2
  have hm5 := (((hm.setO 0 (.int .i64 t.now.over.sorts)).setO 1 (.slice A0 t.now.over.ops.length c0)).setO 2 (.slice B0 t.now.eqs.length d0))
  have ho5 := ho.same (show w4.heap.size ≤ (((w4.setCell ⟨w.heap.size + 2, 0, none⟩ (.int .i64 t.now.over.sorts)).setCell ⟨w.heap.size + 2, 1, none⟩ (.slice A0 t.now.over.ops.length c0)).setCell ⟨w.heap.size + 2, 2, none⟩ (.slice B0 t.now.eqs.length d0)).heap.size by simp [World.setCell]) (show ∀ k, W.heap.size ≤ k → k < w4.heap.size → (((w4.setCell ⟨w.heap.size + 2, 0, none⟩ (.int .i64 t.now.over.sorts)).setCell ⟨w.heap.size + 2, 1, none⟩ (.slice A0 t.now.over.ops.length c0)).setCell ⟨w.heap.size + 2, 2, none⟩ (.slice B0 t.now.eqs.length d0)).heap[k]? = w4.heap[k]? from fun k h1 h2 => by
    rw [Below.heap_setCell _ ⟨w.heap.size + 2, 2, none⟩ _ k (by show k ≠ w.heap.size + 2; omega), Below.heap_setCell _ ⟨w.heap.size + 2, 1, none⟩ _ k (by show k ≠ w.heap.size + 2; omega), Below.heap_setCell _ ⟨w.heap.size + 2, 0, none⟩ _ k (by show k ≠ w.heap.size + 2; omega)])
  generalize hW5 : ((w4.setCell ⟨w.heap.size + 2, 0, none⟩ (.int .i64 t.now.over.sorts)).setCell ⟨w.heap.size + 2, 1, none⟩ (.slice A0 t.now.over.ops.length c0)).setCell ⟨w.heap.size + 2, 2, none⟩ (.slice B0 t.now.eqs.length d0) = w5 at hm5 ho5
  have p3 : w5.cell? ⟨w.heap.size, 3, none⟩ = some (.slice Bt t.past.length dt) := hm5.ca 3
  have HO5 := Lib.hid ho5
  have HM5 := Lib.hid hm5
  have HM5sz := Lib.hid (show W.heap.size ≤ w5.heap.size by have := hb.size; rw [← hW5]; simpa [World.setCell] using this)
  have H2 := Lib.hid (H2.out.keep hm5.b)
  clear ho hb hm p0 p1 p2 hm5 ho5 H1
  go_wp2_with fail
  clear hW5 q0 q1 q2 f0 f1 f2
  refine (toTheoryS_any _ t.past _ H2.out HS2.out).mono ?_
  rintro e w8 ⟨u2, rfl, ho, hb⟩
  have hz7 := HM5.out.z
  have hm := HM5.out.below hb
  obtain ⟨B2, d2, rfl, -⟩ := ho.reads.form
  have hm9 := (((((hm.setO 3 (.slice B2 t.past.length d2)).setR 0 (.int .i64 t.now.over.sorts)).setR 1 (.slice A0 t.now.over.ops.length c0)).setR 2 (.slice B0 t.now.eqs.length d0)).setR 3 (.slice B2 t.past.length d2))
  have o2 := (((((ho.setLow (b := w.heap.size + 2) (by omega) (i := 3) (x := .slice B2 t.past.length d2)).setLow (b := w.heap.size + 1) (by omega) (i := 0) (x := .int .i64 t.now.over.sorts)).setLow (b := w.heap.size + 1) (by omega) (i := 1) (x := .slice A0 t.now.over.ops.length c0)).setLow (b := w.heap.size + 1) (by omega) (i := 2) (x := .slice B0 t.now.eqs.length d0)).setLow (b := w.heap.size + 1) (by omega) (i := 3) (x := .slice B2 t.past.length d2))
  have hkk : ∀ k, w.heap.size + 3 ≤ k → k < w5.heap.size → (((((w8.setCell ⟨w.heap.size + 2, 3, none⟩ (.slice B2 t.past.length d2)).setCell ⟨w.heap.size + 1, 0, none⟩ (.int .i64 t.now.over.sorts)).setCell ⟨w.heap.size + 1, 1, none⟩ (.slice A0 t.now.over.ops.length c0)).setCell ⟨w.heap.size + 1, 2, none⟩ (.slice B0 t.now.eqs.length d0)).setCell ⟨w.heap.size + 1, 3, none⟩ (.slice B2 t.past.length d2)).heap[k]? = w5.heap[k]? := fun k h1 h2 => by
    rw [Below.heap_setCell _ ⟨w.heap.size + 1, 3, none⟩ _ k (by show k ≠ w.heap.size + 1; omega), Below.heap_setCell _ ⟨w.heap.size + 1, 2, none⟩ _ k (by show k ≠ w.heap.size + 1; omega), Below.heap_setCell _ ⟨w.heap.size + 1, 1, none⟩ _ k (by show k ≠ w.heap.size + 1; omega), Below.heap_setCell _ ⟨w.heap.size + 1, 0, none⟩ _ k (by show k ≠ w.heap.size + 1; omega), Below.heap_setCell _ ⟨w.heap.size + 2, 3, none⟩ _ k (by show k ≠ w.heap.size + 2; omega)]
    exact hb.block k h2
  have hsz9 : w5.heap.size ≤ (((((w8.setCell ⟨w.heap.size + 2, 3, none⟩ (.slice B2 t.past.length d2)).setCell ⟨w.heap.size + 1, 0, none⟩ (.int .i64 t.now.over.sorts)).setCell ⟨w.heap.size + 1, 1, none⟩ (.slice A0 t.now.over.ops.length c0)).setCell ⟨w.heap.size + 1, 2, none⟩ (.slice B0 t.now.eqs.length d0)).setCell ⟨w.heap.size + 1, 3, none⟩ (.slice B2 t.past.length d2)).heap.size := by have := hb.size; simpa [World.setCell] using this
  have HF := Lib.hid (And.intro o2 (And.intro hkk hsz9))
  have HM9 := Lib.hid hm9
  have q0 : w8.cell? ⟨w.heap.size + 2, 0, none⟩ = some (.int .i64 t.now.over.sorts) := hm.co 0
  have q1 : w8.cell? ⟨w.heap.size + 2, 1, none⟩ = some (.slice A0 t.now.over.ops.length c0) := hm.co 1
  have q2 : w8.cell? ⟨w.heap.size + 2, 2, none⟩ = some (.slice B0 t.now.eqs.length d0) := hm.co 2
  have q3 : w8.cell? ⟨w.heap.size + 2, 3, none⟩ = some (.slice none 0 0) := hm.co 3
  have f3 := hm.fo 3
  have r0 : w8.cell? ⟨w.heap.size + 1, 0, none⟩ = some (.int .i64 0) := hm.cr 0
  have r1 : w8.cell? ⟨w.heap.size + 1, 1, none⟩ = some (.slice none 0 0) := hm.cr 1
  have r2 : w8.cell? ⟨w.heap.size + 1, 2, none⟩ = some (.slice none 0 0) := hm.cr 2
  have r3 : w8.cell? ⟨w.heap.size + 1, 3, none⟩ = some (.slice none 0 0) := hm.cr 3
  have s0 := hm.fr 0
  have s1 := hm.fr 1
  have s2 := hm.fr 2
  have s3 := hm.fr 3
  clear ho hb hm hm9 o2 hkk hsz9 H2 p3
  go_wp2
  obtain ⟨o2, hkk, hsz9⟩ := HF.out
  have hm9 := HM9.out
  generalize ((((w8.setCell ⟨w.heap.size + 2, 3, none⟩ (.slice B2 t.past.length d2)).setCell ⟨w.heap.size + 1, 0, none⟩ (.int .i64 t.now.over.sorts)).setCell ⟨w.heap.size + 1, 1, none⟩ (.slice A0 t.now.over.ops.length c0)).setCell ⟨w.heap.size + 1, 2, none⟩ (.slice B0 t.now.eqs.length d0)).setCell ⟨w.heap.size + 1, 3, none⟩ (.slice B2 t.past.length d2) = w9 at o2 hkk hsz9 hm9 ⊢
  have k0 : w9.cell? ⟨w.heap.size + 1, 0, none⟩ = some (.int .i64 t.now.over.sorts) := hm9.cr 0
  have k1 : w9.cell? ⟨w.heap.size + 1, 1, none⟩ = some (.slice A0 t.now.over.ops.length c0) := hm9.cr 1
  have k2 : w9.cell? ⟨w.heap.size + 1, 2, none⟩ = some (.slice B0 t.now.eqs.length d0) := hm9.cr 2
  have k3 : w9.cell? ⟨w.heap.size + 1, 3, none⟩ = some (.slice B2 t.past.length d2) := hm9.cr 3
  clear q0 q1 q2 q3 f3 r0 r1 r2 r3 s0 s1 s2 s3
  refine bodyPost_ret (v := .agg #[.int .i64 t.now.over.sorts, .slice A0 t.now.over.ops.length c0, .slice B0 t.now.eqs.length d0, .slice B2 t.past.length d2]) (by simp [results, Try.results9, go_sem, k0, k1, k2, k3]) rfl ?_
  exact ⟨_, rfl, ⟨_, _, _, rfl, w5, W.heap.size, by omega, HM5sz.out, hsz9, HO5.out, fun k h1 h2 => hkk k (by omega) h2, o2⟩, hm9.b⟩

theorem eqBench_is (v v' : Value) (a b : MBench) (w : World) (r : Bool) (hr : sameB a b = r) (h : RBench w v a) (h' : RBench w v' b) :
    Calls Try.prog 11 #[v, v'] w fun e w' => e = .returned (.bool r) ∧ Below w.heap.size w w' := by
  subst hr
  obtain ⟨Aaa, caa, Aab, cab, Aac, cac, rfl⟩ := h.form
  obtain ⟨Aba, cba, Abb, cbb, Abc, cbc, rfl⟩ := h'.form
  have hb : Below w.heap.size w ((w.alloc (.cells #[.int .i64 a.now.over.sorts, .slice Aaa a.now.over.ops.length caa, .slice Aab a.now.eqs.length cab, .slice Aac a.past.length cac] 39)).alloc (.cells #[.int .i64 b.now.over.sorts, .slice Aba b.now.over.ops.length cba, .slice Abb b.now.eqs.length cbb, .slice Abc b.past.length cbc] 39)) := (below_alloc _ _).alloc (by simp) _
  have HB := Lib.hid hb
  have hsz : ((w.alloc (.cells #[.int .i64 a.now.over.sorts, .slice Aaa a.now.over.ops.length caa, .slice Aab a.now.eqs.length cab, .slice Aac a.past.length cac] 39)).alloc (.cells #[.int .i64 b.now.over.sorts, .slice Aba b.now.over.ops.length cba, .slice Abb b.now.eqs.length cbb, .slice Abc b.past.length cbc] 39)).heap.size = w.heap.size + 2 := by simp
  have Ha := Lib.hid (h.keep hb)
  have a0 := cell_keep (below_alloc (w.alloc (.cells #[.int .i64 a.now.over.sorts, .slice Aaa a.now.over.ops.length caa, .slice Aab a.now.eqs.length cab, .slice Aac a.past.length cac] 39)) (.cells #[.int .i64 b.now.over.sorts, .slice Aba b.now.over.ops.length cba, .slice Abb b.now.eqs.length cbb, .slice Abc b.past.length cbc] 39)) (bx_at (w) #[.int .i64 a.now.over.sorts, .slice Aaa a.now.over.ops.length caa, .slice Aab a.now.eqs.length cab, .slice Aac a.past.length cac] 39 (k := 0) rfl)
  have a1 := cell_keep (below_alloc (w.alloc (.cells #[.int .i64 a.now.over.sorts, .slice Aaa a.now.over.ops.length caa, .slice Aab a.now.eqs.length cab, .slice Aac a.past.length cac] 39)) (.cells #[.int .i64 b.now.over.sorts, .slice Aba b.now.over.ops.length cba, .slice Abb b.now.eqs.length cbb, .slice Abc b.past.length cbc] 39)) (bx_at (w) #[.int .i64 a.now.over.sorts, .slice Aaa a.now.over.ops.length caa, .slice Aab a.now.eqs.length cab, .slice Aac a.past.length cac] 39 (k := 1) rfl)
  have a2 := cell_keep (below_alloc (w.alloc (.cells #[.int .i64 a.now.over.sorts, .slice Aaa a.now.over.ops.length caa, .slice Aab a.now.eqs.length cab, .slice Aac a.past.length cac] 39)) (.cells #[.int .i64 b.now.over.sorts, .slice Aba b.now.over.ops.length cba, .slice Abb b.now.eqs.length cbb, .slice Abc b.past.length cbc] 39)) (bx_at (w) #[.int .i64 a.now.over.sorts, .slice Aaa a.now.over.ops.length caa, .slice Aab a.now.eqs.length cab, .slice Aac a.past.length cac] 39 (k := 2) rfl)
  have a3 := cell_keep (below_alloc (w.alloc (.cells #[.int .i64 a.now.over.sorts, .slice Aaa a.now.over.ops.length caa, .slice Aab a.now.eqs.length cab, .slice Aac a.past.length cac] 39)) (.cells #[.int .i64 b.now.over.sorts, .slice Aba b.now.over.ops.length cba, .slice Abb b.now.eqs.length cbb, .slice Abc b.past.length cbc] 39)) (bx_at (w) #[.int .i64 a.now.over.sorts, .slice Aaa a.now.over.ops.length caa, .slice Aab a.now.eqs.length cab, .slice Aac a.past.length cac] 39 (k := 3) rfl)
  have Hb := Lib.hid (h'.keep hb)
  have b0 := bx_at (w.alloc (.cells #[.int .i64 a.now.over.sorts, .slice Aaa a.now.over.ops.length caa, .slice Aab a.now.eqs.length cab, .slice Aac a.past.length cac] 39)) #[.int .i64 b.now.over.sorts, .slice Aba b.now.over.ops.length cba, .slice Abb b.now.eqs.length cbb, .slice Abc b.past.length cbc] 39 (k := 0) rfl
  have b1 := bx_at (w.alloc (.cells #[.int .i64 a.now.over.sorts, .slice Aaa a.now.over.ops.length caa, .slice Aab a.now.eqs.length cab, .slice Aac a.past.length cac] 39)) #[.int .i64 b.now.over.sorts, .slice Aba b.now.over.ops.length cba, .slice Abb b.now.eqs.length cbb, .slice Abc b.past.length cbc] 39 (k := 1) rfl
  have b2 := bx_at (w.alloc (.cells #[.int .i64 a.now.over.sorts, .slice Aaa a.now.over.ops.length caa, .slice Aab a.now.eqs.length cab, .slice Aac a.past.length cac] 39)) #[.int .i64 b.now.over.sorts, .slice Aba b.now.over.ops.length cba, .slice Abb b.now.eqs.length cbb, .slice Abc b.past.length cbc] 39 (k := 2) rfl
  have b3 := bx_at (w.alloc (.cells #[.int .i64 a.now.over.sorts, .slice Aaa a.now.over.ops.length caa, .slice Aab a.now.eqs.length cab, .slice Aac a.past.length cac] 39)) #[.int .i64 b.now.over.sorts, .slice Aba b.now.over.ops.length cba, .slice Abb b.now.eqs.length cbb, .slice Abc b.past.length cbc] 39 (k := 3) rfl
  simp only [World.size_alloc] at b0 b1 b2 b3
  generalize hW : (w.alloc (.cells #[.int .i64 a.now.over.sorts, .slice Aaa a.now.over.ops.length caa, .slice Aab a.now.eqs.length cab, .slice Aac a.past.length cac] 39)).alloc (.cells #[.int .i64 b.now.over.sorts, .slice Aba b.now.over.ops.length cba, .slice Abb b.now.eqs.length cbb, .slice Abc b.past.length cbc] 39) = W at HB hsz Ha a0 a1 a2 a3 Hb b0 b1 b2 b3
  clear hb h h'
  obtain ⟨-, r1, r2⟩ := Ha.out.of
  obtain ⟨-, k1, k2⟩ := Hb.out.of
  have R1 := Lib.hid r1
  have K1 := Lib.hid k1
  have R2 := Lib.hid r2
  have K2 := Lib.hid k2
  clear r1 r2 k1 k2
  cases x0 : sameT a.now b.now with
  | false =>
    have X0 := Lib.hid x0
    clear x0
    go_enter Try.func11, Try.ntmps11
    go_wp2_with fail
    clear hW
    refine (eqTheory_is _ _ _ _ _ _ X0.out R1.out K1.out).mono ?_
    rintro e w1 ⟨rfl, hd⟩
    go_wp2
    go_ret
    exact ⟨ret_bool (by unfold sameB; rw [X0.out]; rfl), sz_keep HB.out hd⟩
  | true =>
    have X0 := Lib.hid x0
    clear x0
    obtain ⟨r, hr⟩ : ∃ r, sameTs a.past b.past = r := ⟨_, rfl⟩
    have HR := Lib.hid hr
    clear hr
    go_enter Try.func11, Try.ntmps11
    go_wp2_with fail
    clear hW
    refine (eqTheory_is _ _ _ _ _ _ X0.out R1.out K1.out).mono ?_
    rintro e w1 ⟨rfl, hb⟩
    have HB1 := Lib.hid (sz_keep HB.out hb)
    have m1 := cell_keep hb a3
    have m2 := cell_keep hb b3
    have R2' := Lib.hid (R2.out.keep hb)
    have K2' := Lib.hid (K2.out.keep hb)
    clear hb a0 a1 a2 a3 b0 b1 b2 b3
    go_wp2_with fail
    refine (eqTheoryS_any _ _ _ _ _ R2'.out K2'.out).mono ?_
    rw [HR.out]
    rintro e w2 ⟨rfl, hb⟩
    have HB2 := Lib.hid (sz_keep HB1.out hb)
    clear hb m1 m2
    cases r with
    | false =>
      go_wp2
      go_ret
      exact ⟨ret_bool (by unfold sameB; rw [X0.out, HR.out]; rfl), HB2.out⟩
    | true =>
      go_wp2
      go_ret
      exact ⟨ret_bool (by unfold sameB; rw [X0.out, HR.out]; rfl), HB2.out⟩
end
end Go.Proofs.Ytmmnamjgpfkabab
