/- A local struct of which a list of rows is filled by append. No walk. · The model of one value for each sort is a model (plain). · laws.single: the model of one value for each sort. -/
import Derived.Test.YtmmnamjgpfkababKa8c0834e
namespace Go.Proofs.Ytmmnamjgpfkabab
section
open Go.RowKit
set_option linter.unusedVariables false

/-- one row more; w6: ahead of the append's one-place slice; rv: the new row, in a block of its own -/
theorem ORows.pushNew5 {wr w6 w7 : World} {B : Nat} {u v' rv : Value} {rows : List (List Int)} {row : List Int} {us : List Value} (hB : B ≤ wr.heap.size) (hb : Below wr.heap.size wr w6) (hr : OInts w6 wr.heap.size rv row)
    (h1 : wr.ownsRow B 55 1 u rows.length us) (h2 : us.length = rows.length)
    (h3 : ∀ (j : Nat) (u : Value) (row : List Int), us[j]? = some u → rows[j]? = some row → OInts wr B u row) (h4 : ∀ (i j : Nat) (u u' : Value), i < j → us[i]? = some u → us[j]? = some u' → u.ownBlock = none ∨ u.ownBlock ≠ u'.ownBlock)
    (hv' : w7.ownsRow B 55 1 v' (rows.length + 1) (us ++ [rv])) (hg : (w6.alloc (.cells #[rv] 55)).grownBy w7 u.ownBlock) : ORows w7 B v' (rows ++ [row]) := by
  refine ORows.push (w := w6.alloc (.cells #[rv] 55)) ((own_keep h1 hb).alloc _) h2 (fun j x r a b => World.ownsRow.alloc (own_keep (h3 j x r a b) hb) _) h4 (World.ownsRow.alloc (OInts.base hr hB) _) (fun i x hx => ?_) hg hv'
  have hi : i < us.length := (List.getElem?_eq_some_iff.1 hx).1
  have hxo := h3 i x rows[i] hx (List.getElem?_eq_getElem (by omega))
  cases hbx : x.ownBlock with
  | none => exact .inl rfl
  | some k =>
    right
    intro e
    have a := (own_lt hxo k hbx).2
    have b := (own_lt hr k e.symm).1
    omega
theorem news_one5 (w : World) (x : Value) (t : TypeId) : ∀ (j : Nat) (u : Value), [x][j]? = some u → (w.alloc (.cells #[x] t)).cell? ((⟨w.heap.size, 0, none⟩ : Addr).add j) = some u := by
  intro j u hj
  match j, hj with
  | 0, hj =>
    simp at hj
    subst hj
    rw [show (⟨w.heap.size, 0, none⟩ : Addr).add 0 = ⟨w.heap.size, 0, none⟩ from rfl, World.cell?_alloc_at _ _ _ _ rfl]
    rfl
theorem rows_one5 {A : Option Addr} {n c : Nat} (x : Value) (hx : x = .slice A n c := by rfl) : ∀ u ∈ [x], u.oneCell' = true := by
  intro u hu; simp at hu; subst hu; subst hx; rfl

theorem bel_grow5 {w w2 : World} {o : Obj} {A : Option Addr} {n c : Nat} (h : (w.alloc o).grownBy w2 (Value.slice A n c).ownBlock) (hr : ∀ k, (Value.slice A n c).ownBlock = some k → w.heap.size ≤ k) : Below w.heap.size w w2 :=
  (below_alloc w o).trans ⟨h.os, h.tape, h.output, h.size, fun k hk => h.block k (Nat.lt_of_lt_of_le hk (by simp)) (fun e => by have := hr k e.symm; omega)⟩

/-- the struct's box lies at lb, ahead of wv; of it the list of rows u is being filled -/
structure LocR (T : TypeId) (wv wr : World) (lb : Nat) (cs : Array Value) (u : Value) (rows : List (List Int)) : Prop where
  loc : wr.heap[lb]? = some (.cells cs T (0, 0))
  own : ORows wr wv.heap.size u rows
  gr : wv.grownBy wr (some lb)
  lt : lb < wv.heap.size
theorem LocR.start {T : TypeId} {wv : World} {lb : Nat} {cs : Array Value} (h : wv.heap[lb]? = some (.cells cs T (0, 0))) : LocR T wv wv lb cs (.slice none 0 0) [] :=
  ⟨h, ORows.nil _ _, ⟨rfl, rfl, rfl, Nat.le_refl _, fun _ _ _ => rfl⟩, (Array.getElem?_eq_some_iff.1 h).1⟩
theorem LocR.push {T : TypeId} {wv wr w6 w7 : World} {lb : Nat} {cs cs' : Array Value} {u v' rv : Value} {rows : List (List Int)} {row : List Int} {us : List Value} (h : LocR T wv wr lb cs u rows) (hb : Below wr.heap.size wr w6) (hr : OInts w6 wr.heap.size rv row)
    (h1 : wr.ownsRow wv.heap.size 55 1 u rows.length us) (h2 : us.length = rows.length)
    (h3 : ∀ (j : Nat) (u : Value) (row : List Int), us[j]? = some u → rows[j]? = some row → OInts wr wv.heap.size u row) (h4 : ∀ (i j : Nat) (u u' : Value), i < j → us[i]? = some u → us[j]? = some u' → u.ownBlock = none ∨ u.ownBlock ≠ u'.ownBlock)
    (hv' : w7.ownsRow wv.heap.size 55 1 v' (rows.length + 1) (us ++ [rv])) (hg : (w6.alloc (.cells #[rv] 55)).grownBy w7 u.ownBlock) (i : Nat) (hc : cs.setIfInBounds i v' = cs') :
    LocR T wv (w7.setCell ⟨lb, i, none⟩ v') lb cs' v' (rows ++ [row]) ∧ w7.heap[lb]? = some (.cells cs T (0, 0)) := by
  have hlr : lb < wr.heap.size := (Array.getElem?_eq_some_iff.1 h.loc).1
  have hs6 := hb.size
  have hsr := h.gr.size
  have hne : ∀ k, k < wv.heap.size → some k ≠ u.ownBlock := fun k hk e => by have := own_lt h1 k e.symm; omega
  have at7 : ∀ k, k < wv.heap.size → w7.heap[k]? = wr.heap[k]? := fun k hk =>
    ((hg.block k (by simp; omega) (hne k hk)).trans (heap_alloc_old w6 _ (by omega))).trans (hb.block k (by omega))
  have hl7 : w7.heap[lb]? = some (.cells cs T (0, 0)) := (at7 lb h.lt).trans h.loc
  have own7 := ORows.pushNew5 hsr hb hr h1 h2 h3 h4 hv' hg
  refine ⟨⟨by rw [← hc]; exact blk_set hl7 i v', own7.setLow' h.lt i v', ⟨hg.os.trans (hb.os.trans h.gr.os), hg.tape.trans (hb.tape.trans h.gr.tape), hg.output.trans (hb.output.trans h.gr.output), ?_, fun k hk hkl => ?_⟩, h.lt⟩, hl7⟩
  · have e : (w7.setCell ⟨lb, i, none⟩ v').heap.size = w7.heap.size := by simp [World.setCell]
    have h3 := hg.size
    rw [e]
    simp at h3
    omega
  · exact ((Below.heap_setCell w7 ⟨lb, i, none⟩ v' k (by show k ≠ lb; intro e; exact hkl (by rw [e]))).trans (at7 k hk)).trans (h.gr.block k hk hkl)
theorem LocR.below {T : TypeId} {w2 wv wr : World} {lb : Nat} {cs : Array Value} {u : Value} {xs : List (List Int)} (h : LocR T wv wr lb cs u xs) (hb : Below w2.heap.size w2 wv) (hl : w2.heap.size ≤ lb) : Below w2.heap.size w2 wr :=
  ⟨h.gr.os.trans hb.os, h.gr.tape.trans hb.tape, h.gr.output.trans hb.output, Nat.le_trans hb.size h.gr.size, fun k hk => (h.gr.block k (by have := hb.size; omega) (by intro e; injection e with e; omega)).trans (hb.block k hk)⟩
theorem LocR.other {T : TypeId} {wv wr : World} {lb B : Nat} {cs : Array Value} {u v : Value} {xs : List (List Int)} {ys : List Int} (h : LocR T wv wr lb cs u xs) (ho : OInts wv B v ys) (hne : v.ownBlock ≠ some lb) : OInts wr B v ys :=
  own_grown ho h.gr (.inr hne)
theorem LocR.at7 {T : TypeId} {wv wr w6 w7 : World} {lb b i : Nat} {cs : Array Value} {u x : Value} {rows : List (List Int)} {us : List Value} {o : Obj} (h : LocR T wv wr lb cs u rows) (hb : Below wr.heap.size wr w6)
    (h1 : wr.ownsRow wv.heap.size 55 1 u rows.length us) (hg : (w6.alloc o).grownBy w7 u.ownBlock) (hp : wr.cell? ⟨b, i, none⟩ = some x) (hk : b < wv.heap.size) : w7.cell? ⟨b, i, none⟩ = some x := by
  have hs6 := hb.size
  have hsr := h.gr.size
  exact (World.cell?_of_block (((hg.block b (by simp; omega) (fun e => by have := own_lt h1 b e.symm; omega)).trans (heap_alloc_old w6 _ (by omega))).trans (hb.block b (by omega)))).trans hp
theorem blk_held {wc wd : World} {bx : Nat} {o : Obj} (hz : wc.heap[bx]? = some o) (hb : Below wc.heap.size wc wd) : wd.heap[bx]? = some o := (hb.block _ (Array.getElem?_eq_some_iff.1 hz).1).trans hz

set_option maxRecDepth 100000 in
theorem cloneNil (c : Nat) (w : World) :
    Calls Try.prog 117 #[.slice none 0 c] w fun e w' => e = .returned (.slice none 0 0) ∧ Below w.heap.size w w' := by
  have hcmp := Lib.run_eql_slice_nil (P := Try.prog) w 55 3 none 0 c 0 0 Try.underlying55
  simp only [Option.isNone_none] at hcmp
  go_enter Try.func117, Try.ntmps117
  go_wp2
  go_ret
  exact ⟨rfl, Below.refl _ _⟩
theorem cloneAll (v : Value) (xs : List Int) (w : World) (h : RInts w v xs) (hs : xs.length ≤ 1048576) :
    Calls Try.prog 117 #[v] w fun e w' => ∃ u, e = .returned u ∧ OInts w' w.heap.size u xs ∧ Below w.heap.size w w' := by
  obtain ⟨A, c, rfl, h1, h2⟩ := h.form
  cases A with
  | some ad => exact clone_any ad _ c xs w h hs
  | none =>
    have hx : xs = [] := by
      cases xs with
      | nil => rfl
      | cons y ys =>
        obtain ⟨b, o, c', e, -⟩ := h.at_ (k := 0) (by simp)
        cases e
    subst hx
    refine (cloneNil c w).mono ?_
    rintro e w' ⟨rfl, hb⟩
    exact ⟨_, rfl, OInts.nil _ _, hb⟩
end

section
open Go.RowKit

def singleM (s : MSig) : MModel := ⟨List.replicate s.sorts.toNat 1, List.replicate s.ops.length [0]⟩
theorem ways_ones : ∀ {zs : List Int}, (∀ z ∈ zs, z = 1) → waysM zs = 1
  | [], _ => rfl
  | z :: zs, h => by
    show z * waysM zs = 1
    rw [h z (List.mem_cons_self ..), ways_ones (fun x hx => h x (List.mem_cons_of_mem _ hx))]; rfl
theorem led_ones {n : Nat} {row : List Int} (h : ∀ x ∈ row, 0 ≤ x ∧ x < (n : Int) ∧ x < 100) : ∀ z ∈ ledM (List.replicate n 1) row, z = 1 := by
  intro z hz
  unfold ledM at hz
  obtain ⟨x, hx, rfl⟩ := List.mem_map.1 hz
  obtain ⟨h0, h1, h2⟩ := h x hx
  rw [if_pos h2, getD_at _ (show x.toNat < (List.replicate n (1 : Int)).length by rw [List.length_replicate]; omega), List.getElem_replicate]
theorem single_model {s : MSig} : modelB s (singleM s) = validB s := by
  cases hv : validB s with
  | false => exact model_no1 hv
  | true =>
    obtain ⟨h1, h2, h3⟩ := valid_sorts hv
    refine facts_model ⟨hv, by simp [singleM]; omega, by simp [singleM], fun z hz => ?_, fun k hk => ?_⟩
    · rw [show (singleM s).sizes = List.replicate s.sorts.toNat 1 from rfl] at hz
      rw [(List.mem_replicate.1 hz).2]; omega
    · obtain ⟨r1, r2, r3⟩ := opRow_valid hv hk
      have e : (singleM s).tables.getD k [] = [0] := by
        show (List.replicate s.ops.length [0]).getD k [] = [0]
        rw [getD_at _ (by simpa using hk), List.getElem_replicate]
      rw [e]
      unfold tableB belowB
      have hl : 0 ≤ (opRow s k).getLastD (-1) ∧ (opRow s k).getLastD (-1) < s.sorts := by
        have : (opRow s k).getLastD (-1) ∈ opRow s k := by
          rw [last_at (row := opRow s k) (by omega)]; exact List.getElem_mem _
        exact r3 _ this
      have e2 : (singleM s).sizes.getD ((opRow s k).getLastD (-1)).toNat 0 = 1 := by
        show (List.replicate s.sorts.toNat (1 : Int)).getD _ 0 = 1
        rw [getD_at _ (show ((opRow s k).getLastD (-1)).toNat < (List.replicate s.sorts.toNat (1 : Int)).length by rw [List.length_replicate]; omega), List.getElem_replicate]
      rw [e2]
      have e3 : waysM (ledM (singleM s).sizes (opRow s k).dropLast) = 1 := ways_ones (led_ones fun x hx => by have := r3 x (List.mem_of_mem_dropLast' hx); omega)
      rw [e3]
      decide
end

section
open Go.RowKit
set_option linter.unusedVariables false
set_option linter.unusedSimpArgs false

theorem rep_succ {α : Type} (n : Nat) (x : α) : List.replicate (n + 1) x = List.replicate n x ++ [x] := List.replicate_succ'

set_option maxHeartbeats 3200000 in
set_option maxRecDepth 100000 in
theorem single_any (s : MSig) (w : World) (v : Value) (h1 : RSig w v s) (h0 : 0 ≤ s.sorts) (hs1 : s.sorts ≤ 1000) (hs2 : s.ops.length ≤ 1000) :
    Calls Try.prog 27 #[v] w fun e w' => ∃ u, e = .returned u ∧ OModel w' w.heap.size u (singleM s) ∧ Below w.heap.size w w' := by
  obtain ⟨i0, hi0, hz0, hz1, hz2⟩ := info_parts Try.info_int
  obtain ⟨i1, hj, hy0, hy1, hy2⟩ := info_parts Try.info_ints
  obtain ⟨Asa, csa, rfl⟩ := h1.form
  have hb : Below w.heap.size w ((w.alloc (.cells #[.int .i64 s.sorts, .slice Asa s.ops.length csa] 33)).alloc (.cells #[.slice none 0 0, .slice none 0 0] 57)) := (below_alloc _ _).alloc (by simp) _
  have HB := Lib.hid hb
  have hsz : ((w.alloc (.cells #[.int .i64 s.sorts, .slice Asa s.ops.length csa] 33)).alloc (.cells #[.slice none 0 0, .slice none 0 0] 57)).heap.size = w.heap.size + 2 := by simp
  have Hs := Lib.hid (h1.keep hb)
  have s0 := cell_keep (below_alloc (w.alloc (.cells #[.int .i64 s.sorts, .slice Asa s.ops.length csa] 33)) (.cells #[.slice none 0 0, .slice none 0 0] 57)) (bx_at (w) #[.int .i64 s.sorts, .slice Asa s.ops.length csa] 33 (k := 0) rfl)
  have s1 := cell_keep (below_alloc (w.alloc (.cells #[.int .i64 s.sorts, .slice Asa s.ops.length csa] 33)) (.cells #[.slice none 0 0, .slice none 0 0] 57)) (bx_at (w) #[.int .i64 s.sorts, .slice Asa s.ops.length csa] 33 (k := 1) rfl)
  have HZr := Lib.hid (show ((w.alloc (.cells #[.int .i64 s.sorts, .slice Asa s.ops.length csa] 33)).alloc (.cells #[.slice none 0 0, .slice none 0 0] 57)).heap[w.heap.size + 1]? = some (.cells #[.slice none 0 0, .slice none 0 0] 57 (0, 0)) from (congrArg (fun i => ((w.alloc (.cells #[.int .i64 s.sorts, .slice Asa s.ops.length csa] 33)).alloc (.cells #[.slice none 0 0, .slice none 0 0] 57)).heap[i]?) (by simp)).trans (heap_alloc_new (w.alloc (.cells #[.int .i64 s.sorts, .slice Asa s.ops.length csa] 33)) _))
  generalize hW : (w.alloc (.cells #[.int .i64 s.sorts, .slice Asa s.ops.length csa] 33)).alloc (.cells #[.slice none 0 0, .slice none 0 0] 57) = W at HB hsz Hs s0 s1 HZr
  clear hb h1
  have hb3 := below_alloc W (.cells #[.slice none 0 0, .slice none 0 0] 57)
  have hl3 : (W.alloc (.cells #[.slice none 0 0, .slice none 0 0] 57)).heap[W.heap.size]? = some (.cells #[.slice none 0 0, .slice none 0 0] 57 (0, 0)) := heap_alloc_new W _
  generalize hW3 : W.alloc (.cells #[.slice none 0 0, .slice none 0 0] 57) = W3 at hb3 hl3
  have hl4 : ((W3.setCell ⟨W.heap.size, 0, none⟩ (.slice none 0 0)).setCell ⟨W.heap.size, 1, none⟩ (.slice none 0 0)).heap[W.heap.size]? = some (.cells #[.slice none 0 0, .slice none 0 0] 57 (0, 0)) := blk_set (blk_set hl3 0 (.slice none 0 0)) 1 (.slice none 0 0)
  have hb4 : Below W.heap.size W ((W3.setCell ⟨W.heap.size, 0, none⟩ (.slice none 0 0)).setCell ⟨W.heap.size, 1, none⟩ (.slice none 0 0)) := (hb3.setCell (p := ⟨W.heap.size, 0, none⟩) (Nat.le_refl _) _).setCell (p := ⟨W.heap.size, 1, none⟩) (Nat.le_refl _) _
  have j0 := blk_cell hl3 0
  have j1 := blk_cell hl3 1
  have jf0 := blk_free hl3 0
  have jf1 := blk_free hl3 1
  simp at j0 j1
  have HWS := Lib.hid hsz
  clear hsz
  generalize hW4 : (W3.setCell ⟨W.heap.size, 0, none⟩ (.slice none 0 0)).setCell ⟨W.heap.size, 1, none⟩ (.slice none 0 0) = W4 at hl4 hb4
  have HL4 := Lib.hid hl4
  have HB4 := Lib.hid hb4
  have hlt4 : W.heap.size < W4.heap.size := (Array.getElem?_eq_some_iff.1 HL4.out).1
  have HC0 := Lib.hid (And.intro s0 s1)
  clear hb3 hl3 hl4 hb4
  go_enter Try.func27, Try.ntmps27
  go_wp2
  clear hW hW3 hW4 j0 j1 jf0 jf1 s0 s1
  go_loopw [4] (fun i wr => ∃ k : Nat, ∃ u, (k : Int) ≤ s.sorts ∧ i = .int .i64 k ∧ Loc 57 W4 wr W.heap.size #[u, .slice none 0 0] u (List.replicate k 1)) (fun i _ => s.sorts.toNat - (intOf i).toNat)
  case atStart => exact ⟨0, _, h0, rfl, Loc.start HL4.out⟩
  case round =>
    obtain ⟨k, u, hk, rfl, hloc⟩ := hrel
    have HLOC := Lib.hid hloc
    have HBW := Lib.hid (hloc.below HB4.out (Nat.le_refl _))
    obtain ⟨Au, cu, rfl, -⟩ := own_reads hloc.own
    have s0 := cell_keep HBW.out HC0.out.1
    have s1 := cell_keep HBW.out HC0.out.2
    clear hloc
    by_cases hlt : (k : Int) < s.sorts
    · have hs3 := HLOC.out.gr.size
      have HLEN := Lib.hid (List.length_replicate (n := k) (a := (1 : Int)))
      have HSUC := Lib.hid (rep_succ k (1 : Int))
      have l0 := blk_cell HLOC.out.loc 0
      simp only [List.getElem?_toArray, List.getElem?_cons_zero] at l0
      generalize List.replicate k (1 : Int) = ps at HLOC HLEN HSUC l0 hs3
      clear s0 s1
      have s0 := cell_keep HBW.out HC0.out.1
      go_wp2_with (at_builtin; refine wpList_append_own _ rfl _ _ 55 rfl W4.heap.size 3 i0 (.int .i64 0) 1 8 Try.underlying55 hi0 hz0 hz1 hz2 rfl (by decide) _ ps.length (ps.map (Value.int .i64)) rfl (own_keep HLOC.out.own (below_alloc wr _)) ⟨wr.heap.size, 0, none⟩ 1 1 ([(1 : Int)].map (Value.int .i64)) rfl (by simp) (led_new wr (1 : Int)) (ints_one _) (by rw [HLEN.out, maxLen_eq]; omega) (by rw [HLEN.out]; omega) (by simp; omega) ?_)
      intro v6 w6 hv6 hg6 _
      have HO6 := Lib.hid (led_app (rs := [(1 : Int)]) rfl hv6)
      obtain ⟨A6, c6, rfl, -⟩ := own_reads hv6
      have HN := Lib.hid (HLOC.out.push (cs' := #[.slice A6 (ps.length + 1) c6, .slice none 0 0]) hg6 HO6.out 0 rfl)
      have hl6 := HLOC.out.grown hg6
      have q0 := blk_cell hl6 0
      have qf := blk_free hl6 0
      simp at q0
      clear hv6 hg6 hl6 l0 s0
      go_wp2
      go_roundw
      case rel => exact ⟨k + 1, _, by omega, by go_num, by rw [HSUC.out]; exact HN.out⟩
      case measure => simp [intOf]; omega
    · obtain ⟨wz, rfl⟩ : ∃ wz : World, wz = wr := ⟨_, rfl⟩
      have HKS := Lib.hid (show s.sorts.toNat = k by omega)
      have OU := Lib.hid HLOC.out.own
      have HLZ := Lib.hid HLOC.out.loc
      have HBZ := Lib.hid HBW.out
      have HUB := Lib.hid (fun k e => (own_lt HLOC.out.own k e).2)
      have hz4 := HLOC.out.gr.size
      go_wp2
      clear s0 s1 HBW HLOC
      go_loopw [5] (fun i wr => ∃ j : Nat, ∃ u, j ≤ s.ops.length ∧ i = .int .i64 j ∧ LocR 57 wz wr W.heap.size #[.slice Au (List.replicate k (1 : Int)).length cu, u] u (List.replicate j [0])) (fun i _ => s.ops.length - (intOf i).toNat)
      case atStart => exact ⟨0, _, Nat.zero_le _, rfl, LocR.start HLZ.out⟩
      case round =>
        obtain ⟨j, u, hjl, rfl, hloc⟩ := hrel
        have HLOC := Lib.hid hloc
        have HBW := Lib.hid (hloc.below HBZ.out (Nat.le_refl _))
        obtain ⟨us, q1, q2, q3, q4⟩ := hloc.own
        obtain ⟨Av, cv, rfl, -⟩ := own_reads q1
        have HU1 := Lib.hid q1
        have HU2 := Lib.hid q2
        have HU3 := Lib.hid q3
        have HU4 := Lib.hid q4
        have s0 := cell_keep HBW.out HC0.out.1
        have s1 := cell_keep HBW.out HC0.out.2
        clear hloc q1 q2 q3 q4
        by_cases hlt2 : j < s.ops.length
        · have hlt3 : (j : Int) < (s.ops.length : Int) := by omega
          have hs3 := HLOC.out.gr.size
          have HLEN := Lib.hid (List.length_replicate (n := j) (a := [(0 : Int)]))
          have HSUC := Lib.hid (rep_succ j [(0 : Int)])
          have l0 := blk_cell HLOC.out.loc 1
          simp only [List.getElem?_toArray, List.getElem?_cons_zero, List.getElem?_cons_succ] at l0
          generalize List.replicate j [(0 : Int)] = ps at HLOC HLEN HSUC l0 HU1 HU2 HU3
          have HROW := Lib.hid (show OInts (wr.alloc (.cells #[.int .i64 0] 3)) wr.heap.size (.slice (some ⟨wr.heap.size, 0, none⟩) 1 1) [0] from World.ownsRow_lit wr #[.int .i64 0] 1 (Nat.le_refl _) (by unfold maxLen; omega) rfl)
          have hownU := (HU1.out.alloc (.cells #[.int .i64 0] 3)).alloc (.cells #[.slice (some ⟨wr.heap.size, 0, none⟩) 1 1] 55)
          have f3 : ((wr.alloc (.cells #[.int .i64 0] 3)).alloc (.cells #[.slice (some ⟨wr.heap.size, 0, none⟩) 1 1] 55)).cell? ⟨wr.heap.size + 1, 0, none⟩ = some (.slice (some ⟨wr.heap.size, 0, none⟩) 1 1) := by
            rw [World.cell?_alloc_at _ _ _ _ (by simp)]; rfl
          clear s0
          go_wp2_with (at_builtin; refine wpList_append_own _ rfl _ _ 22 rfl wz.heap.size 55 i1 (.slice none 0 0) 1 24 Try.underlying22 hj hy0 hy1 hy2 rfl (by decide) _ _ _ rfl hownU ⟨wr.heap.size + 1, 0, none⟩ 1 1 [.slice (some ⟨wr.heap.size, 0, none⟩) 1 1] rfl rfl ?c1 ?c2 ?c3 ?c4 ?c5 ?_)
          any_goals first
            | exact new_one f3
            | (rw [HLEN.out]; unfold maxLen; omega)
            | (rw [HLEN.out]; omega)
            | (simp; omega)
            | (intro u hu; simp at hu; subst hu; rfl)
            | rfl
          intro v7 w7 hv7 hg7 _
          obtain ⟨A7, c7, rfl, -⟩ := own_reads hv7
          obtain ⟨hp, hl7⟩ := HLOC.out.push (cs' := #[.slice Au (List.replicate k (1 : Int)).length cu, .slice A7 (ps.length + 1) c7]) (below_alloc wr (.cells #[.int .i64 0] 3)) HROW.out HU1.out HU2.out HU3.out HU4.out hv7 hg7 1 rfl
          have HN := Lib.hid hp
          have q0 := blk_cell hl7 1
          have qf := blk_free hl7 1
          simp at q0
          clear hv7 hg7 hp hl7 l0 f3 hownU s1
          go_wp2
          go_roundw
          case rel => exact ⟨j + 1, _, by omega, by go_num, by rw [HSUC.out]; exact HN.out⟩
          case measure => simp [intOf]; omega
        · have hlt3 : ¬ (j : Int) < (s.ops.length : Int) := by omega
          have HE := Lib.hid (show singleM s = ⟨List.replicate k 1, List.replicate j [0]⟩ by unfold singleM; rw [HKS.out, show s.ops.length = j by omega])
          have OU2 := Lib.hid (HLOC.out.other OU.out (own_not OU.out HLZ.out (by decide)))
          have OV := Lib.hid HLOC.out.own
          have hbw : Below w.heap.size w wr := sz_keep HB.out HBW.out
          have hres := blk_held HZr.out HBW.out
          have t0 := blk_cell hres 0
          have t1 := blk_cell hres 1
          have tf0 := blk_free hres 0
          have tf1 := blk_free hres 1
          simp at t0 t1
          have l0 := blk_cell HLOC.out.loc 0
          have l1 := blk_cell HLOC.out.loc 1
          simp only [List.getElem?_toArray, List.getElem?_cons_zero, List.getElem?_cons_succ] at l0 l1
          have hw1 := HWS.out
          have d1 := blk_set (blk_set hres 0 (.slice Au (List.replicate k (1 : Int)).length cu)) 1 (.slice Av (List.replicate j [(0 : Int)]).length cv)
          have n0 := ((OU2.out.setLow (b := w.heap.size + 1) (by omega) 0 (.slice Au (List.replicate k (1 : Int)).length cu)).setLow (b := w.heap.size + 1) (by omega) 1 (.slice Av (List.replicate j [(0 : Int)]).length cv))
          have n1 := ((OV.out.setLow' (b := w.heap.size + 1) (by omega) 0 (.slice Au (List.replicate k (1 : Int)).length cu)).setLow' (b := w.heap.size + 1) (by omega) 1 (.slice Av (List.replicate j [(0 : Int)]).length cv))
          have hbz := ((hbw.setCell (p := ⟨w.heap.size + 1, 0, none⟩) (by show w.heap.size ≤ w.heap.size + 1; omega) (.slice Au (List.replicate k (1 : Int)).length cu)).setCell (p := ⟨w.heap.size + 1, 1, none⟩) (by show w.heap.size ≤ w.heap.size + 1; omega) (.slice Av (List.replicate j [(0 : Int)]).length cv))
          have HD := Lib.hid (And.intro d1 (And.intro n0 (And.intro n1 hbz)))
          clear d1 n0 n1 hbz hres hbw hw1
          generalize (List.replicate k (1 : Int)) = zs at HD HE l0 l1 OU2 OV HUB HLOC
          generalize (List.replicate j [(0 : Int)]) = rows at HD HE l0 l1 OV HLOC
          go_wp2
          obtain ⟨d1, n0, n1, hbz⟩ := HD.out
          generalize (wr.setCell ⟨w.heap.size + 1, 0, none⟩ (.slice Au zs.length cu)).setCell ⟨w.heap.size + 1, 1, none⟩ (.slice Av rows.length cv) = w9 at d1 hbz n0 n1 ⊢
          have k0 := blk_cell d1 0
          have k1 := blk_cell d1 1
          simp at k0 k1
          clear t0 t1 tf0 tf1 l0 l1 s0 s1
          refine bodyPost_ret (v := .agg #[.slice Au zs.length cu, .slice Av rows.length cv]) (by simp [results, Try.results27, go_sem, k0, k1]) rfl ?_
          exact ⟨_, rfl, by rw [HE.out]; exact ⟨_, _, rfl, n0.base (by have := HWS.out; omega), wz.heap.size, by have := HWS.out; omega, HUB.out, n1⟩, hbz⟩
end
end Go.Proofs.Ytmmnamjgpfkabab
