/- What l20Map keeps: two signatures and a map in local boxes; results into three boxes. No walk. · l20Map: two signatures and a map. · DrawMapOk. · Equality of rows, of lists of rows, of signatures (package laws). -/
import Derived.Test.YtkhabmoidpgapabK9cbcd926
import Derived.StillTailTactics
namespace Go.Proofs.Ytkhabmoidpgapab
section
open Go.RowKit
set_option linter.unusedVariables false
set_option linter.unusedSimpArgs false

/-- the local boxes la, lb (signatures), lm (a map); the results' boxes w.heap.size .. -/
structure MpAt (w wz : World) (g la lb lm : Nat) (as_ bs_ : Int) (ua ub x y : Value) (ar br : List (List Int)) (m : MMap) (q : Nat) : Prop where
  ra : wz.heap[w.heap.size]? = some (.cells #[.int .i64 0, .slice none 0 0] 25 (0, 0))
  rb : wz.heap[w.heap.size + 1]? = some (.cells #[.int .i64 0, .slice none 0 0] 25 (0, 0))
  rm : wz.heap[w.heap.size + 2]? = some (.cells #[.slice none 0 0, .slice none 0 0] 28 (0, 0))
  ha : wz.heap[la]? = some (.cells #[.int .i64 as_, ua] 25 (0, 0))
  hb : wz.heap[lb]? = some (.cells #[.int .i64 bs_, ub] 25 (0, 0))
  hm : wz.heap[lm]? = some (.cells #[x, y] 28 (0, 0))
  oa : ORows wz (w.heap.size + 3) ua ar
  ob : ORows wz (w.heap.size + 3) ub br
  o0 : OInts wz (w.heap.size + 3) x m.sorts
  o1 : OInts wz (w.heap.size + 3) y m.ops
  rd : RRd wz g q
  gr : w.grownBy wz (some g)
  gl : g < w.heap.size
  al : w.heap.size + 3 ≤ la
  bl : w.heap.size + 3 ≤ lb
  ml : w.heap.size + 3 ≤ lm
section
variable {w wz : World} {g la lb lm : Nat} {as_ bs_ : Int} {ua ub x y : Value} {ar br : List (List Int)} {m : MMap} {q : Nat}
theorem MpAt.later {w' : World} {q' : Nat} (h : MpAt w wz g la lb lm as_ bs_ ua ub x y ar br m q) (hg : wz.grownBy w' (some g)) (hr : RRd w' g q') : MpAt w w' g la lb lm as_ bs_ ua ub x y ar br m q' := by
  have h1 := h.gl
  have h2 := h.al
  have h3 := h.bl
  have h4 := h.ml
  exact ⟨gr_at hg (by omega) h.ra, gr_at hg (by omega) h.rb, gr_at hg (by omega) h.rm, gr_at hg (by omega) h.ha, gr_at hg (by omega) h.hb, gr_at hg (by omega) h.hm, h.oa.grown hg (fun k e => by injection e with e; omega), h.ob.grown hg (fun k e => by injection e with e; omega), own_past h.o0 hg (by omega), own_past h.o1 hg (by omega), hr, gr_trans h.gr hg (fun x e => by injection e with e; exact .inl e.symm), h1, h2, h3, h4⟩
theorem MpAt.keep {w' : World} (h : MpAt w wz g la lb lm as_ bs_ ua ub x y ar br m q) (hb : Below wz.heap.size wz w') : MpAt w w' g la lb lm as_ bs_ ua ub x y ar br m q := h.later (gr_below (gr_refl wz g) hb) (h.rd.keep hb)
theorem ORows.pokeM {w : World} {B b i : Nat} {t : TypeId} {v x : Value} {rows : List (List Int)} {cs : Array Value} (h : ORows w B v rows) (hb : w.heap[b]? = some (.cells cs t (0, 0))) (hne : 26 ≠ t) (hne2 : 3 ≠ t) : ORows (w.setCell ⟨b, i, none⟩ x) B v rows := by
  obtain ⟨us, h1, h2, h3, h4⟩ := h
  exact ⟨us, own_pokeI h1 hb hne, h2, fun j x r a c => own_pokeI (h3 j x r a c) hb hne2, h4⟩
/-- the map's box is written, with a row that lies apart -/
theorem MpAt.set0 {v : Value} {xs : List Int} (h : MpAt w wz g la lb lm as_ bs_ ua ub x y ar br m q) (ho : OInts wz (w.heap.size + 3) v xs) : MpAt w (wz.setCell ⟨lm, 0, none⟩ v) g la lb lm as_ bs_ ua ub v y ar br ⟨xs, m.ops⟩ q := by
  have h1 := h.gl
  have h4 := h.ml
  have ne : ∀ {k : Nat} {o : Obj}, wz.heap[k]? = some o → o ≠ .cells #[x, y] 28 (0, 0) → (wz.setCell ⟨lm, 0, none⟩ v).heap[k]? = some o := fun {k o} hk hn => (Below.heap_setCell wz ⟨lm, 0, none⟩ v k (by rintro rfl; rw [h.hm] at hk; injection hk with hk; exact hn hk.symm)).trans hk
  exact ⟨ne h.ra (by intro e; injection e with _ e; exact absurd e (by decide)), ne h.rb (by intro e; injection e with _ e; exact absurd e (by decide)), (Below.heap_setCell wz ⟨lm, 0, none⟩ v _ (by show w.heap.size + 2 ≠ lm; omega)).trans h.rm, ne h.ha (by intro e; injection e with _ e; exact absurd e (by decide)), ne h.hb (by intro e; injection e with _ e; exact absurd e (by decide)), block_set h.hm 0 v, h.oa.pokeM h.hm (by decide) (by decide), h.ob.pokeM h.hm (by decide) (by decide), own_pokeI ho h.hm (by decide), own_pokeI h.o1 h.hm (by decide), h.rd.setCell (by omega) v, gr_setCell h.gr (.inr (by show w.heap.size ≤ lm; omega)) v, h1, h.al, h.bl, h4⟩
theorem MpAt.set1 {v : Value} {xs : List Int} (h : MpAt w wz g la lb lm as_ bs_ ua ub x y ar br m q) (ho : OInts wz (w.heap.size + 3) v xs) : MpAt w (wz.setCell ⟨lm, 1, none⟩ v) g la lb lm as_ bs_ ua ub x v ar br ⟨m.sorts, xs⟩ q := by
  have h1 := h.gl
  have h4 := h.ml
  have ne : ∀ {k : Nat} {o : Obj}, wz.heap[k]? = some o → o ≠ .cells #[x, y] 28 (0, 0) → (wz.setCell ⟨lm, 1, none⟩ v).heap[k]? = some o := fun {k o} hk hn => (Below.heap_setCell wz ⟨lm, 1, none⟩ v k (by rintro rfl; rw [h.hm] at hk; injection hk with hk; exact hn hk.symm)).trans hk
  exact ⟨ne h.ra (by intro e; injection e with _ e; exact absurd e (by decide)), ne h.rb (by intro e; injection e with _ e; exact absurd e (by decide)), (Below.heap_setCell wz ⟨lm, 1, none⟩ v _ (by show w.heap.size + 2 ≠ lm; omega)).trans h.rm, ne h.ha (by intro e; injection e with _ e; exact absurd e (by decide)), ne h.hb (by intro e; injection e with _ e; exact absurd e (by decide)), block_set h.hm 1 v, h.oa.pokeM h.hm (by decide) (by decide), h.ob.pokeM h.hm (by decide) (by decide), own_pokeI h.o0 h.hm (by decide), own_pokeI ho h.hm (by decide), h.rd.setCell (by omega) v, gr_setCell h.gr (.inr (by show w.heap.size ≤ lm; omega)) v, h1, h.al, h.bl, h4⟩
theorem set_comm {w : World} {b c i j : Nat} {x y : Value} (hne : b ≠ c) : (w.setCell ⟨b, i, none⟩ x).setCell ⟨c, j, none⟩ y = (w.setCell ⟨c, j, none⟩ y).setCell ⟨b, i, none⟩ x := by
  unfold World.setCell
  simp only
  congr 1
  apply Array.ext_getElem?
  intro k
  simp only [Array.getElem?_modify]
  by_cases h1 : c = k <;> by_cases h2 : b = k <;> simp_all
/-- a new row for the map's second one, and its first number written -/
theorem MpAt.both {w1 : World} {gy n c : Nat} {ys : List Int} {z : Int} (h : MpAt w wz g la lb lm as_ bs_ ua ub x y ar br m q) (hb : Below wz.heap.size wz w1) (ho : OInts w1 wz.heap.size (.slice (some ⟨gy, 0, none⟩) n c) ys) (hn : n = ys.length) :
    MpAt w ((w1.setCell ⟨lm, 1, none⟩ (.slice (some ⟨gy, 0, none⟩) n c)).setCell ⟨gy, 0, none⟩ (.int .i64 z)) g la lb lm as_ bs_ ua ub x (.slice (some ⟨gy, 0, none⟩) n c) ar br ⟨m.sorts, ys.set 0 z⟩ q := by
  have h1 := h.gr.size
  have h2 : w.heap.size + 2 < wz.heap.size := (Array.getElem?_eq_some_iff.1 h.rm).1
  have hgy := (own_lt ho gy rfl).1
  have hlm : lm < wz.heap.size := (Array.getElem?_eq_some_iff.1 h.hm).1
  rw [set_comm (show lm ≠ gy by omega)]
  exact (h.keep (hb.setCell (p := ⟨gy, 0, none⟩) hgy _)).set1 ((own_set ho hn 0 z).1.base (by omega))
end
end

section
open Go.RowKit
set_option linter.unusedVariables false
set_option linter.unusedSimpArgs false

theorem bel_more {a b c : World} {row : Option Nat} (hb : Below a.heap.size a b) (hg : b.grownBy c row) (hr : ∀ k, row = some k → a.heap.size ≤ k) : Below a.heap.size a c :=
  ⟨hg.os.trans hb.os, hg.tape.trans hb.tape, hg.output.trans hb.output, Nat.le_trans hb.size hg.size, fun k hk => (hg.block k (Nat.lt_of_lt_of_le hk hb.size) (fun e => by have := hr k e.symm; omega)).trans (hb.block k hk)⟩
theorem MpAt.drew3 {w wz : World} {g la lb lm : Nat} {as_ bs_ : Int} {ua ub x y : Value} {ar br : List (List Int)} {m : MMap} {q : Nat} {p : Addr} {v : Value} (h : MpAt w (wz.setCell p v) g la lb lm as_ bs_ ua ub x y ar br m q) : MpAt w (wz.drew.setCell p v) g la lb lm as_ bs_ ua ub x y ar br m q := h.keep (map_drew (Below.refl _ _))
/-- what l20Map answers -/
def Map20Post (g p : Nat) (w : World) (e : Ending) (w' : World) : Prop :=
  ∃ (av bv mv : Value) (a b : MSig) (m : MMap) (q : Nat), e = .returned (.tuple #[av, bv, mv]) ∧ OSig w' w.heap.size av a ∧ (a.ops.length ≤ 6 ∧ 0 ≤ a.sorts ∧ a.sorts ≤ 3) ∧ OSig w' w.heap.size bv b ∧ (b.ops.length ≤ 6 ∧ 0 ≤ b.sorts ∧ b.sorts ≤ 3) ∧ OMapD w' w.heap.size mv m ∧ m.sorts.length ≤ 4 ∧ m.ops.length ≤ 7 ∧ RRd w' g q ∧ q ≤ p + 60 ∧ w.grownBy w' (some g)

set_option maxHeartbeats 3200000 in
set_option maxRecDepth 100000 in
theorem map20_any (g p : Nat) (n : Int) (w : World) (h : RRd w g p) (hp : p ≤ 1000000) (hn : 0 ≤ n) (hn2 : n ≤ 1000000) :
    Calls Try.prog 47 #[.pointer (some ⟨g, 0, none⟩), .int .i64 n] w (Map20Post g p w) := by
  have hgl := h.lt
  obtain ⟨i0, hi0, hz0, hz1, hz2⟩ := info_parts Try.tinfo_int
  obtain ⟨W, hW⟩ : ∃ W : World, W = ((w.alloc (.cells #[.int .i64 0, .slice none 0 0] 25)).alloc (.cells #[.int .i64 0, .slice none 0 0] 25)).alloc (.cells #[.slice none 0 0, .slice none 0 0] 28) := ⟨_, rfl⟩
  have hb0 : Below w.heap.size w W := by rw [hW]; exact ((below_alloc _ _).alloc (by simp) _).alloc (by simp; omega) _
  have HB0 := Lib.hid hb0
  have HZ0 := Lib.hid (show W.heap.size = w.heap.size + 3 by rw [hW]; simp)
  have HRA := Lib.hid (show W.heap[w.heap.size]? = some (.cells #[.int .i64 0, .slice none 0 0] 25 (0, 0)) by rw [hW]; exact (heap_alloc_old _ _ (by simp; omega)).trans ((heap_alloc_old _ _ (by simp)).trans (heap_alloc_new w _)))
  have HRB := Lib.hid (show W.heap[w.heap.size + 1]? = some (.cells #[.int .i64 0, .slice none 0 0] 25 (0, 0)) by rw [hW]; exact (heap_alloc_old _ _ (by simp)).trans ((congrArg (fun i => ((w.alloc (.cells #[.int .i64 0, .slice none 0 0] 25)).alloc (.cells #[.int .i64 0, .slice none 0 0] 25)).heap[i]?) (by simp)).trans (heap_alloc_new (w.alloc (.cells #[.int .i64 0, .slice none 0 0] 25)) _)))
  have HRM := Lib.hid (show W.heap[w.heap.size + 2]? = some (.cells #[.slice none 0 0, .slice none 0 0] 28 (0, 0)) by rw [hW]; exact (congrArg (fun i => (((w.alloc (.cells #[.int .i64 0, .slice none 0 0] 25)).alloc (.cells #[.int .i64 0, .slice none 0 0] 25)).alloc (.cells #[.slice none 0 0, .slice none 0 0] 28)).heap[i]?) (by simp)).trans (heap_alloc_new ((w.alloc (.cells #[.int .i64 0, .slice none 0 0] 25)).alloc (.cells #[.int .i64 0, .slice none 0 0] 25)) _))
  have HR0 := Lib.hid (h.keep hb0)
  have hW' := hW.symm
  clear hb0 hW h
  go_enter Try.func47, Try.ntmps47
  go_wp2_with fail
  clear hW'
  refine (sig_two g p _ _ HR0.out (by omega) (by omega) (by omega)).mono ?_
  rintro e w2 ⟨av, ⟨as_, ar⟩, q, rfl, ⟨ua, rfl, ho⟩, hs1, hr2, hq2, hg2⟩
  obtain ⟨us2, hu2, -⟩ := id ho
  obtain ⟨Aa, ca, rfl, -⟩ := own_reads hu2
  simp only at hs1 ho
  have hzW := HZ0.out
  have hz2w : W.heap.size ≤ w2.heap.size := hg2.size
  have hgW : g < W.heap.size := by omega
  have HG3 := Lib.hid (gr_alloc hg2 (.cells #[.int .i64 as_, .slice Aa ar.length ca] 25))
  have HBX := Lib.hid (heap_alloc_new w2 (.cells #[.int .i64 as_, .slice Aa ar.length ca] 25))
  have HO := Lib.hid (show ORows (w2.alloc (.cells #[.int .i64 as_, .slice Aa ar.length ca] 25)) (w.heap.size + 3) (.slice Aa ar.length ca) ar by rw [← hzW]; exact ho.keep (below_alloc _ _))
  have HR := Lib.hid (hr2.keep (below_alloc w2 (.cells #[.int .i64 as_, .slice Aa ar.length ca] 25)))
  clear ho hr2 hg2 hu2
  generalize hW3 : w2.alloc (.cells #[.int .i64 as_, .slice Aa ar.length ca] 25) = w3 at HG3 HBX HO HR
  have hz3 : w2.heap.size < w3.heap.size := (Array.getElem?_eq_some_iff.1 HBX.out).1
  have g0 := block_cell HBX.out 0
  have g1 := block_cell HBX.out 1
  simp at g0 g1
  have HS1 := Lib.hid (show (⟨as_, ar⟩ : MSig).ops.length ≤ 6 ∧ 0 ≤ (⟨as_, ar⟩ : MSig).sorts ∧ (⟨as_, ar⟩ : MSig).sorts ≤ 3 by simp only; omega)
  clear hs1
  go_wp2_with fail
  clear hW3
  refine (into_any ⟨as_, ar⟩ g q w3 _ (w.heap.size + 3) ⟨_, rfl, HO.out⟩ (by omega) (by omega) HR.out (by omega)).mono ?_
  rintro e w4 ⟨bv, mv, ⟨bs_, br⟩, m, q4, rfl, ⟨ub, rfl, hob⟩, hbf, ⟨x, y, rfl, o0, o1⟩, hm0, hm1, hr4, hq4, hg4⟩
  obtain ⟨us4, hu4, -⟩ := id hob
  obtain ⟨Ab, cb, rfl, -⟩ := own_reads hu4
  obtain ⟨A0, c0, rfl, -⟩ := own_reads o0
  obtain ⟨A1, c1, rfl, -⟩ := own_reads o1
  simp only at hob
  have hbf : (⟨bs_, br⟩ : MSig).ops.length ≤ 6 ∧ 0 ≤ (⟨bs_, br⟩ : MSig).sorts ∧ (⟨bs_, br⟩ : MSig).sorts ≤ 3 := by
    rcases hbf with hh | hh
    · rw [hh]; exact HS1.out
    · exact hh
  have hz4 : w3.heap.size ≤ w4.heap.size := hg4.size
  have HBF := Lib.hid (show (⟨bs_, br⟩ : MSig).ops.length ≤ 6 ∧ 0 ≤ (⟨bs_, br⟩ : MSig).sorts ∧ (⟨bs_, br⟩ : MSig).sorts ≤ 3 from hbf)
  have hbl : br.length ≤ 6 := hbf.1
  have hga := gr_alloc (gr_alloc hg4 (.cells #[.int .i64 bs_, .slice Ab br.length cb] 25)) (.cells #[.slice A0 m.sorts.length c0, .slice A1 m.ops.length c1] 28)
  have hba : Below w4.heap.size w4 ((w4.alloc (.cells #[.int .i64 bs_, .slice Ab br.length cb] 25)).alloc (.cells #[.slice A0 m.sorts.length c0, .slice A1 m.ops.length c1] 28)) := (below_alloc _ _).alloc (by simp) _
  have HM5 := Lib.hid (show MpAt w ((w4.alloc (.cells #[.int .i64 bs_, .slice Ab br.length cb] 25)).alloc (.cells #[.slice A0 m.sorts.length c0, .slice A1 m.ops.length c1] 28)) g w2.heap.size w4.heap.size (w4.heap.size + 1) as_ bs_ (.slice Aa ar.length ca) (.slice Ab br.length cb) (.slice A0 m.sorts.length c0) (.slice A1 m.ops.length c1) ar br m q4 from
    ⟨gr_at hga (by omega) (gr_at HG3.out (by omega) HRA.out), gr_at hga (by omega) (gr_at HG3.out (by omega) HRB.out), gr_at hga (by omega) (gr_at HG3.out (by omega) HRM.out), gr_at hga (by omega) HBX.out, (heap_alloc_old _ _ (by simp)).trans (heap_alloc_new w4 _), (congrArg (fun i => ((w4.alloc (.cells #[.int .i64 bs_, .slice Ab br.length cb] 25)).alloc (.cells #[.slice A0 m.sorts.length c0, .slice A1 m.ops.length c1] 28)).heap[i]?) (by simp)).trans (heap_alloc_new (w4.alloc (.cells #[.int .i64 bs_, .slice Ab br.length cb] 25)) _),
      HO.out.grown hga (fun k e => by injection e with e; omega), hob.keep hba, (o0.keep hba).base (by omega), (o1.keep hba).base (by omega), hr4.keep hba, gr_trans (gr_trans (gr_below (gr_refl w g) HB0.out) HG3.out (fun x e => by injection e with e; exact .inl e.symm)) hga (fun x e => by injection e with e; exact .inl e.symm), hgl, by omega, by omega, by omega⟩)
  generalize hW5 : (w4.alloc (.cells #[.int .i64 bs_, .slice Ab br.length cb] 25)).alloc (.cells #[.slice A0 m.sorts.length c0, .slice A1 m.ops.length c1] 28) = w5 at HM5
  clear hob hu4 o0 o1 hr4 hg4 hga hba hbf g0 g1
  go_wp2_with fail
  clear hW5
  refine (odd_any g q4 _ _ HM5.out.rd (by omega) hn hn2).mono ?_
  rintro e w7 ⟨b, q7, rfl, hr7, hq7, hg7⟩
  have HM7 := Lib.hid (HM5.out.later hg7 hr7)
  clear hr7 hg7
  go_upto_if 21 with fail
  go_cut [] (fun wx => ∃ (A0 A1 : Option Addr) (c0 c1 : Nat) (m' : MMap) (q' : Nat), MpAt w wx g w2.heap.size w4.heap.size (w4.heap.size + 1) as_ bs_ (.slice Aa ar.length ca) (.slice Ab br.length cb) (.slice A0 m'.sorts.length c0) (.slice A1 m'.ops.length c1) ar br m' q' ∧ m'.sorts.length ≤ 4 ∧ m'.ops.length ≤ 7 ∧ q' ≤ p + 60)
  case first =>
    cases b with
    | false =>
      go_wp2
      go_meet
      case rel => exact ⟨_, _, _, _, m, q7, HM7.out, by omega, by omega, by omega⟩
    | true =>
      go_wp2_with fail
      refine (pick_any g q7 3 _ HM7.out.rd (by omega)).mono ?_
      rintro e w8 ⟨x8, rfl, hx8, hr8, hg8⟩
      have hx8 := hx8.2 (by omega)
      have HM8 := Lib.hid (HM7.out.later hg8 hr8)
      have l0 := block_cell HM8.out.hm 0
      have l1 := block_cell HM8.out.hm 1
      have l2 := block_cell HM8.out.hb 1
      simp at l0 l1 l2
      have hlm : w4.heap.size + 1 < w8.heap.size := (Array.getElem?_eq_some_iff.1 HM8.out.hm).1
      clear hr8 hg8
      by_cases k0 : x8 = 0
      · subst k0
        have hr8 := HM8.out.o0.reads
        obtain ⟨A6, c6, w9, hrun, ho6, hg6⟩ := app_own_run (w8.alloc (.cells #[] 3)) 26 w8.heap.size _ _ [] m.sorts (own_empty w8) (hr8.keep (below_alloc w8 (.cells #[] 3))) (by simp; omega) (by simp)
        rw [List.nil_append] at hrun ho6
        have HRUN := Lib.hid hrun
        have HB9 := Lib.hid (bel_grow2 hg6 (fun k e => by injection e with e; exact Nat.le_of_eq e))
        have HO9 := Lib.hid ho6
        clear hr8 hrun ho6 hg6
        go_wp2_with (first | (at_builtin; refine Lib.wpList_append_run _ rfl (.tmp 48) (.tmp 50) _ _ rfl _ _ rfl rfl _ _ HRUN.out ?_) | (at_builtin; refine wpList_append_own _ rfl (.tmp 51) (.tmp 52) 26 rfl w8.heap.size 3 i0 (.int .i64 0) 1 8 Try.underlying26 hi0 hz0 hz1 hz2 rfl (by decide) _ m.sorts.length (m.sorts.map (Value.int .i64)) rfl (HO9.out.alloc (.cells #[.int .i64 0] 3)) ⟨w9.heap.size, 0, none⟩ 1 1 ([(0 : Int)].map (Value.int .i64)) rfl (by simp) (led_new w9 (0 : Int)) (ints_one _) (by rw [maxLen_eq]; omega) (by omega) (by have := HB9.out.size; simp; omega) ?_))
        intro v10 w10 hv10 hg10 _
        have ho10 := led_app (rs := [(0 : Int)]) rfl hv10
        obtain ⟨A10, c10, rfl, -⟩ := own_reads hv10
        have hb10 := bel_more (HB9.out.trans ((below_alloc w9 (.cells #[.int .i64 0] 3)).mono HB9.out.size)) hg10 (fun k e => (own_lt HO9.out k e).1)
        have HMK := Lib.hid (HM8.out.keep hb10)
        have HM9 := Lib.hid (HMK.out.set0 (ho10.base (B' := w.heap.size + 3) (by have := HM8.out.gr.size; have := (Array.getElem?_eq_some_iff.1 HM8.out.rm).1; omega)))
        have q0 := block_cell HMK.out.hm 0
        have qf := block_free HMK.out.hm 0
        simp at q0
        clear ho10 hv10 hg10 hb10
        go_wp2
        go_meet
        case rel => exact ⟨_, _, _, _, ⟨m.sorts ++ [0], m.ops⟩, q7 + 1, by simpa using HM9.out, by simp; omega, by simp; omega, by omega⟩
      by_cases k1 : x8 = 1
      · subst k1
        have hr8 := HM8.out.o1.reads
        obtain ⟨A6, c6, w9, hrun, ho6, hg6⟩ := app_own_run (w8.alloc (.cells #[] 3)) 26 w8.heap.size _ _ [] m.ops (own_empty w8) (hr8.keep (below_alloc w8 (.cells #[] 3))) (by simp; omega) (by simp)
        rw [List.nil_append] at hrun ho6
        have HRUN := Lib.hid hrun
        have HB9 := Lib.hid (bel_grow2 hg6 (fun k e => by injection e with e; exact Nat.le_of_eq e))
        have HO9 := Lib.hid ho6
        clear hr8 hrun ho6 hg6
        go_wp2_with (first | (at_builtin; refine Lib.wpList_append_run _ rfl (.tmp 57) (.tmp 59) _ _ rfl _ _ rfl rfl _ _ HRUN.out ?_) | (at_builtin; refine wpList_append_own _ rfl (.tmp 60) (.tmp 61) 26 rfl w8.heap.size 3 i0 (.int .i64 0) 1 8 Try.underlying26 hi0 hz0 hz1 hz2 rfl (by decide) _ m.ops.length (m.ops.map (Value.int .i64)) rfl (HO9.out.alloc (.cells #[.int .i64 0] 3)) ⟨w9.heap.size, 0, none⟩ 1 1 ([(0 : Int)].map (Value.int .i64)) rfl (by simp) (led_new w9 (0 : Int)) (ints_one _) (by rw [maxLen_eq]; omega) (by omega) (by have := HB9.out.size; simp; omega) ?_))
        intro v10 w10 hv10 hg10 _
        have ho10 := led_app (rs := [(0 : Int)]) rfl hv10
        obtain ⟨A10, c10, rfl, -⟩ := own_reads hv10
        have hb10 := bel_more (HB9.out.trans ((below_alloc w9 (.cells #[.int .i64 0] 3)).mono HB9.out.size)) hg10 (fun k e => (own_lt HO9.out k e).1)
        have HMK := Lib.hid (HM8.out.keep hb10)
        have HM9 := Lib.hid (HMK.out.set1 (ho10.base (B' := w.heap.size + 3) (by have := HM8.out.gr.size; have := (Array.getElem?_eq_some_iff.1 HM8.out.rm).1; omega)))
        have q0 := block_cell HMK.out.hm 1
        have qf := block_free HMK.out.hm 1
        simp at q0
        clear ho10 hv10 hg10 hb10
        go_wp2
        go_meet
        case rel => exact ⟨_, _, _, _, ⟨m.sorts, m.ops ++ [0]⟩, q7 + 1, by simpa using HM9.out, by simp; omega, by simp; omega, by omega⟩
      · have e0' : (x8 == 0) = false := by rw [beq_eq_false_iff_ne]; exact k0
        have e1' : (x8 == 1) = false := by rw [beq_eq_false_iff_ne]; exact k1
        by_cases ht0 : m.ops.length = 0
        · have ht0' : ¬ (0 : Int) < (m.ops.length : Int) := by omega
          go_wp2
          go_meet
          case rel => exact ⟨_, _, _, _, m, q7 + 1, HM8.out, by omega, by omega, by omega⟩
        · have ht0' : (0 : Int) < (m.ops.length : Int) := by omega
          have ht1 : 0 < m.ops.length := by omega
          have hr8 := HM8.out.o1.reads
          obtain ⟨A6, c6, w9, hrun, ho6, hg6⟩ := app_own_run (w8.alloc (.cells #[] 3)) 26 w8.heap.size _ _ [] m.ops (own_empty w8) (hr8.keep (below_alloc w8 (.cells #[] 3))) (by simp; omega) (by simp)
          rw [List.nil_append] at hrun ho6
          have HRUN := Lib.hid hrun
          have HB9 := Lib.hid (bel_grow2 hg6 (fun k e => by injection e with e; exact Nat.le_of_eq e))
          obtain ⟨gy, cy, e, hgy⟩ := own_at0 ho6 ht1
          injection e with e1 e2 e3
          subst e1 e3
          have HO9 := Lib.hid ho6
          have HMK := Lib.hid (HM8.out.keep HB9.out)
          have q0 := block_cell HMK.out.hm 1
          have qf := block_free HMK.out.hm 1
          simp at q0
          have HMS := Lib.hid (HMK.out.set1 (ho6.base (B' := w.heap.size + 3) (by have := HM8.out.gr.size; have := (Array.getElem?_eq_some_iff.1 HM8.out.rm).1; omega)))
          have HMB := Lib.hid (fun z => HM8.out.both (z := z) HB9.out HO9.out rfl)
          clear hr8 hrun ho6 hg6
          generalize hW9 : w9.setCell ⟨w4.heap.size + 1, 1, none⟩ (.slice (some ⟨gy, 0, none⟩) m.ops.length c6) = ws at HMS HMB
          have p1 := block_cell HMS.out.hm 1
          have p2 := block_cell HMS.out.hb 1
          simp at p1 p2
          obtain ⟨p3, pf3⟩ := own_cell (k := 0) HMS.out.o1 ht1
          simp only at p3
          generalize m.ops[0] = v0 at p3
          go_wp2_with (at_builtin; refine Lib.wpList_append_run _ rfl (.tmp 28) (.tmp 30) _ _ rfl _ _ rfl rfl _ _ HRUN.out ?_)
          clear q0 qf hW9 l0 l1 l2
          replace p1 : ws.drew.cell? _ = _ := p1
          replace p2 : ws.drew.cell? _ = _ := p2
          replace p3 : ws.drew.cell? _ = _ := p3
          replace pf3 : ws.drew.frozen? _ = _ := pf3
          have hnz : ¬ IntKind.i64.wrap ((br.length : Int) + 1) = 0 := by rw [IntKind.wrap_i64]; omega
          go_still_tail 13, (by kernel_rfl)
          change wpList _ _ _ _ _ ws.drew
          go_wp2
          go_meet
          case rel => exact ⟨_, _, _, _, ⟨m.sorts, m.ops.set 0 _⟩, q7 + 1, by rw [List.length_set]; exact (HMB.out _).drew3, by simp only; omega, by simp; omega, by omega⟩
  case rest =>
    obtain ⟨A0', A1', c0', c1', m9, q9, hmo, hms, hmp, hq9⟩ := hcut
    obtain ⟨wx, hwx⟩ : ∃ x : World, x = wc := ⟨_, rfl⟩
    subst hwx
    have HM9 := Lib.hid hmo
    have l0 := block_cell HM9.out.ha 0
    have l1 := block_cell HM9.out.ha 1
    have l2 := block_cell HM9.out.hb 0
    have l3 := block_cell HM9.out.hb 1
    have l4 := block_cell HM9.out.hm 0
    have l5 := block_cell HM9.out.hm 1
    have r0 := block_cell HM9.out.ra 0
    have r1 := block_cell HM9.out.ra 1
    have r2 := block_cell HM9.out.rb 0
    have r3 := block_cell HM9.out.rb 1
    have r4 := block_cell HM9.out.rm 0
    have r5 := block_cell HM9.out.rm 1
    have rf0 := block_free HM9.out.ra 0
    have rf1 := block_free HM9.out.ra 1
    have rf2 := block_free HM9.out.rb 0
    have rf3 := block_free HM9.out.rb 1
    have rf4 := block_free HM9.out.rm 0
    have rf5 := block_free HM9.out.rm 1
    simp at l0 l1 l2 l3 l4 l5 r0 r1 r2 r3 r4 r5
    have b1 := HM9.out.al
    have b2 := HM9.out.bl
    have b3 := HM9.out.ml
    clear hmo
    go_wp2_with fail
    go_region_held3 (fun w' => w'.cell? ⟨w2.heap.size, 0, none⟩ = some (.int .i64 as_) ∧ w'.cell? ⟨w2.heap.size, 1, none⟩ = some (.slice Aa ar.length ca) ∧ w'.cell? ⟨w4.heap.size, 0, none⟩ = some (.int .i64 bs_) ∧ w'.cell? ⟨w4.heap.size, 1, none⟩ = some (.slice Ab br.length cb) ∧ w'.cell? ⟨w4.heap.size + 1, 0, none⟩ = some (.slice A0' m9.sorts.length c0') ∧ w'.cell? ⟨w4.heap.size + 1, 1, none⟩ = some (.slice A1' m9.ops.length c1')) (first | with_reducible exact ⟨drew_cellm l0, drew_cellm l1, drew_cellm l2, drew_cellm l3, drew_cellm l4, drew_cellm l5⟩ | with_reducible exact ⟨drew_cellm (keep2m l0 (by omega)), drew_cellm (keep2m l1 (by omega)), drew_cellm (keep2m l2 (by omega)), drew_cellm (keep2m l3 (by omega)), drew_cellm (keep2m l4 (by omega)), drew_cellm (keep2m l5 (by omega))⟩ | with_reducible exact ⟨drew_cellm (keep2m (keep2m l0 (by omega)) (by omega)), drew_cellm (keep2m (keep2m l1 (by omega)) (by omega)), drew_cellm (keep2m (keep2m l2 (by omega)) (by omega)), drew_cellm (keep2m (keep2m l3 (by omega)) (by omega)), drew_cellm (keep2m (keep2m l4 (by omega)) (by omega)), drew_cellm (keep2m (keep2m l5 (by omega)) (by omega))⟩ | with_reducible exact ⟨drew_cellm (keep2m (keep2m (keep2m l0 (by omega)) (by omega)) (by omega)), drew_cellm (keep2m (keep2m (keep2m l1 (by omega)) (by omega)) (by omega)), drew_cellm (keep2m (keep2m (keep2m l2 (by omega)) (by omega)) (by omega)), drew_cellm (keep2m (keep2m (keep2m l3 (by omega)) (by omega)) (by omega)), drew_cellm (keep2m (keep2m (keep2m l4 (by omega)) (by omega)) (by omega)), drew_cellm (keep2m (keep2m (keep2m l5 (by omega)) (by omega)) (by omega))⟩) (fail)
    have HRDZ := Lib.hid (put2_rd (b := w.heap.size + 2) (x := .slice A0' m9.sorts.length c0') (y := .slice A1' m9.ops.length c1') (put2_rd (b := w.heap.size + 1) (x := .int .i64 bs_) (y := .slice Ab br.length cb) (put2_rd (b := w.heap.size) (x := .int .i64 as_) (y := .slice Aa ar.length ca) HM9.out.rd (by omega)) (by omega)) (by omega))
    have HGRZ := Lib.hid (put2_gr (b := w.heap.size + 2) (x := .slice A0' m9.sorts.length c0') (y := .slice A1' m9.ops.length c1') (put2_gr (b := w.heap.size + 1) (x := .int .i64 bs_) (y := .slice Ab br.length cb) (put2_gr (b := w.heap.size) (x := .int .i64 as_) (y := .slice Aa ar.length ca) HM9.out.gr (Nat.le_refl _)) (by omega)) (by omega))
    have d1 := (put2_other (x := .slice A0' m9.sorts.length c0') (y := .slice A1' m9.ops.length c1') (show w.heap.size ≠ w.heap.size + 2 by omega)).trans ((put2_other (x := .int .i64 bs_) (y := .slice Ab br.length cb) (show w.heap.size ≠ w.heap.size + 1 by omega)).trans (put2_at (x := .int .i64 as_) (y := .slice Aa ar.length ca) HM9.out.ra))
    have d2 := (put2_other (x := .slice A0' m9.sorts.length c0') (y := .slice A1' m9.ops.length c1') (show w.heap.size + 1 ≠ w.heap.size + 2 by omega)).trans (put2_at (x := .int .i64 bs_) (y := .slice Ab br.length cb) ((put2_other (x := .int .i64 as_) (y := .slice Aa ar.length ca) (show w.heap.size + 1 ≠ w.heap.size by omega)).trans HM9.out.rb))
    have d3 := put2_at (x := .slice A0' m9.sorts.length c0') (y := .slice A1' m9.ops.length c1') ((put2_other (x := .int .i64 bs_) (y := .slice Ab br.length cb) (show w.heap.size + 2 ≠ w.heap.size + 1 by omega)).trans ((put2_other (x := .int .i64 as_) (y := .slice Aa ar.length ca) (show w.heap.size + 2 ≠ w.heap.size by omega)).trans HM9.out.rm))
    have HLOW := Lib.hid (fun (k : Nat) (hk : w.heap.size + 3 ≤ k) => (put2_other (x := .slice A0' m9.sorts.length c0') (y := .slice A1' m9.ops.length c1') (show k ≠ w.heap.size + 2 by omega)).trans ((put2_other (x := .int .i64 bs_) (y := .slice Ab br.length cb) (show k ≠ w.heap.size + 1 by omega)).trans (put2_other (wz := wx) (x := .int .i64 as_) (y := .slice Aa ar.length ca) (show k ≠ w.heap.size by omega))))
    clear l0 l1 l2 l3 l4 l5 r0 r1 r2 r3 r4 r5 rf0 rf1 rf2 rf3 rf4 rf5
    generalize (((((wx.setCell ⟨w.heap.size, 0, none⟩ (.int .i64 as_)).setCell ⟨w.heap.size, 1, none⟩ (.slice Aa ar.length ca)).setCell ⟨w.heap.size + 1, 0, none⟩ (.int .i64 bs_)).setCell ⟨w.heap.size + 1, 1, none⟩ (.slice Ab br.length cb)).setCell ⟨w.heap.size + 2, 0, none⟩ (.slice A0' m9.sorts.length c0')).setCell ⟨w.heap.size + 2, 1, none⟩ (.slice A1' m9.ops.length c1') = w9 at d1 d2 d3 HRDZ HGRZ HLOW ⊢
    have k0 := drew_cellm (block_cell d1 0)
    have k1 := drew_cellm (block_cell d1 1)
    have k2 := drew_cellm (block_cell d2 0)
    have k3 := drew_cellm (block_cell d2 1)
    have k4 := drew_cellm (block_cell d3 0)
    have k5 := drew_cellm (block_cell d3 1)
    simp at k0 k1 k2 k3 k4 k5
    go_wp2
    refine bodyPost_ret (v := .tuple #[.agg #[.int .i64 as_, .slice Aa ar.length ca], .agg #[.int .i64 bs_, .slice Ab br.length cb], .agg #[.slice A0' m9.sorts.length c0', .slice A1' m9.ops.length c1']]) (by simp [results, Try.results47, go_sem, k0, k1, k2, k3, k4, k5]) rfl ?_
    exact ⟨_, _, _, ⟨as_, ar⟩, ⟨bs_, br⟩, m9, q9, rfl, osig_drewm (OSig.base (B := w.heap.size + 3) ⟨_, rfl, HM9.out.oa.same (fun k h1 h2 => HLOW.out k h1)⟩ (by omega)), HS1.out, osig_drewm (OSig.base (B := w.heap.size + 3) ⟨_, rfl, HM9.out.ob.same (fun k h1 h2 => HLOW.out k h1)⟩ (by omega)), HBF.out, OMapD.drew (OMapD.base (B := w.heap.size + 3) ⟨_, _, rfl, HM9.out.o0.same (fun k h1 h2 => HLOW.out k h1), HM9.out.o1.same (fun k h1 h2 => HLOW.out k h1)⟩ (by omega)), hms, hmp, HRDZ.out, hq9, gr_todrewm HGRZ.out⟩
end

section
open Go.RowKit
set_option linter.unusedVariables false
set_option linter.unusedSimpArgs false

def FewS (s : MSig) : Prop := s.ops.length ≤ 6 ∧ 0 ≤ s.sorts ∧ s.sorts ≤ 3
def DrawMapPost (w : World) (e : Ending) (w' : World) : Prop :=
  ∃ (av bv mv : Value) (a b : MSig) (m : MMap), e = .returned (.tuple #[av, bv, mv]) ∧ OSig w' w.heap.size av a ∧ FewS a ∧ OSig w' w.heap.size bv b ∧ FewS b ∧ OMapD w' w.heap.size mv m ∧ m.sorts.length ≤ 4 ∧ m.ops.length ≤ 7 ∧ Below w.heap.size w w'

set_option maxHeartbeats 1600000 in
set_option maxRecDepth 100000 in
theorem drawMapOk_any (v : Value) (bs : List Int) (w : World) (h : RBytes w w.heap.size v bs) :
    Calls Try.prog 9 #[v] w (DrawMapPost w) := by
  obtain ⟨W, hW⟩ : ∃ W : World, W = ((w.alloc (.cells #[.int .i64 0, .slice none 0 0] 25)).alloc (.cells #[.int .i64 0, .slice none 0 0] 25)).alloc (.cells #[.slice none 0 0, .slice none 0 0] 28) := ⟨_, rfl⟩
  have hb0 : Below w.heap.size w W := by rw [hW]; exact ((below_alloc _ _).alloc (by simp) _).alloc (by simp; omega) _
  have HB0 := Lib.hid hb0
  have HZ0 := Lib.hid (show W.heap.size = w.heap.size + 3 by rw [hW]; simp)
  have HZR0 := Lib.hid (show W.heap[w.heap.size]? = some (.cells #[.int .i64 0, .slice none 0 0] 25 (0, 0)) by rw [hW]; exact (heap_alloc_old ((w.alloc (.cells #[.int .i64 0, .slice none 0 0] 25)).alloc (.cells #[.int .i64 0, .slice none 0 0] 25)) _ (by simp; omega)).trans ((heap_alloc_old (w.alloc (.cells #[.int .i64 0, .slice none 0 0] 25)) _ (by simp)).trans (heap_alloc_new (w) _)))
  have HZR1 := Lib.hid (show W.heap[w.heap.size + 1]? = some (.cells #[.int .i64 0, .slice none 0 0] 25 (0, 0)) by rw [hW]; exact (heap_alloc_old ((w.alloc (.cells #[.int .i64 0, .slice none 0 0] 25)).alloc (.cells #[.int .i64 0, .slice none 0 0] 25)) _ (by simp)).trans ((congrArg (fun i => ((w.alloc (.cells #[.int .i64 0, .slice none 0 0] 25)).alloc (.cells #[.int .i64 0, .slice none 0 0] 25)).heap[i]?) (by simp)).trans (heap_alloc_new (w.alloc (.cells #[.int .i64 0, .slice none 0 0] 25)) _)))
  have HZR2 := Lib.hid (show W.heap[w.heap.size + 2]? = some (.cells #[.slice none 0 0, .slice none 0 0] 28 (0, 0)) by rw [hW]; exact (congrArg (fun i => (((w.alloc (.cells #[.int .i64 0, .slice none 0 0] 25)).alloc (.cells #[.int .i64 0, .slice none 0 0] 25)).alloc (.cells #[.slice none 0 0, .slice none 0 0] 28)).heap[i]?) (by simp)).trans (heap_alloc_new ((w.alloc (.cells #[.int .i64 0, .slice none 0 0] 25)).alloc (.cells #[.int .i64 0, .slice none 0 0] 25)) _))
  have HW := Lib.hid (bytes_alloc h hb0)
  obtain ⟨A, c, rfl, -⟩ := h
  have hW' := hW.symm
  clear hb0 hW
  go_enter Try.func9, Try.ntmps9
  go_wp2_with fail
  clear hW'
  refine (open_any _ bs _ HW.out).mono ?_
  rintro e w1 ⟨rfl, hr1, hb1⟩
  rw [HZ0.out] at hr1
  have HR1 := Lib.hid hr1
  have HB1 := Lib.hid hb1
  rw [HZ0.out]
  have hzW := HZ0.out
  have hz1 := HB1.out.size
  have hlt1 : w.heap.size + 3 < w1.heap.size := HR1.out.lt
  clear hr1 hb1
  go_wp2_with fail
  refine (map20_any (w.heap.size + 3) 0 3 _ HR1.out (by omega) (by omega) (by omega)).mono ?_
  rintro e w2 ⟨av, bv, mv, ⟨as_, ar⟩, ⟨bs_, br⟩, m, q, rfl, ⟨ua, rfl, oa⟩, hfa, ⟨ub, rfl, ob⟩, hfb, ⟨x, y, rfl, o0, o1⟩, hms, hmo, hr2, hq2, hg2⟩
  obtain ⟨us1, hu1, -⟩ := id oa
  obtain ⟨Aa, ca, rfl, -⟩ := own_reads hu1
  obtain ⟨us2, hu2, -⟩ := id ob
  obtain ⟨Ab, cb, rfl, -⟩ := own_reads hu2
  obtain ⟨A0, c0, rfl, -⟩ := own_reads o0
  obtain ⟨A1, c1, rfl, -⟩ := own_reads o1
  simp only at oa ob
  have hz2 : w1.heap.size ≤ w2.heap.size := hg2.size
  have hra := gr_at hg2 (by omega) ((HB1.out.block _ (by omega)).trans HZR0.out)
  have hrb := gr_at hg2 (by omega) ((HB1.out.block _ (by omega)).trans HZR1.out)
  have hrm := gr_at hg2 (by omega) ((HB1.out.block _ (by omega)).trans HZR2.out)
  have r0 := block_cell hra 0
  have rf0 := block_free hra 0
  have r1 := block_cell hra 1
  have rf1 := block_free hra 1
  have r2 := block_cell hrb 0
  have rf2 := block_free hrb 0
  have r3 := block_cell hrb 1
  have rf3 := block_free hrb 1
  have r4 := block_cell hrm 0
  have rf4 := block_free hrm 0
  have r5 := block_cell hrm 1
  have rf5 := block_free hrm 1
  simp at r0 r1 r2 r3 r4 r5
  have hbel : Below w.heap.size w w2 := (HB0.out.trans (HB1.out.mono (by omega))).trans (below_of_gr' hg2 (by omega) (by omega))
  go_wp2
  have d0 := ((put2_other (x := (.slice A0 m.sorts.length c0)) (y := (.slice A1 m.ops.length c1)) (show w.heap.size ≠ w.heap.size + 2 by omega)).trans ((put2_other (x := (.int .i64 bs_)) (y := (.slice Ab br.length cb)) (show w.heap.size ≠ w.heap.size + 1 by omega)).trans (put2_at (x := (.int .i64 as_)) (y := (.slice Aa ar.length ca)) hra)))
  have d1 := ((put2_other (x := (.slice A0 m.sorts.length c0)) (y := (.slice A1 m.ops.length c1)) (show w.heap.size + 1 ≠ w.heap.size + 2 by omega)).trans (put2_at (x := (.int .i64 bs_)) (y := (.slice Ab br.length cb)) ((put2_other (x := (.int .i64 as_)) (y := (.slice Aa ar.length ca)) (show w.heap.size + 1 ≠ w.heap.size by omega)).trans hrb)))
  have d2 := (put2_at (x := (.slice A0 m.sorts.length c0)) (y := (.slice A1 m.ops.length c1)) ((put2_other (x := (.int .i64 bs_)) (y := (.slice Ab br.length cb)) (show w.heap.size + 2 ≠ w.heap.size + 1 by omega)).trans ((put2_other (x := (.int .i64 as_)) (y := (.slice Aa ar.length ca)) (show w.heap.size + 2 ≠ w.heap.size by omega)).trans hrm)))
  have HLOW := Lib.hid (fun (k : Nat) (hk : w.heap.size + 3 ≤ k) => ((put2_other (x := (.slice A0 m.sorts.length c0)) (y := (.slice A1 m.ops.length c1)) (show k ≠ w.heap.size + 2 by omega)).trans ((put2_other (x := (.int .i64 bs_)) (y := (.slice Ab br.length cb)) (show k ≠ w.heap.size + 1 by omega)).trans (put2_other (wz := w2) (x := (.int .i64 as_)) (y := (.slice Aa ar.length ca)) (show k ≠ w.heap.size by omega)))))
  have HBEL := Lib.hid (put2_bel (b := w.heap.size + 2) (x := (.slice A0 m.sorts.length c0)) (y := (.slice A1 m.ops.length c1)) (put2_bel (b := w.heap.size + 1) (x := (.int .i64 bs_)) (y := (.slice Ab br.length cb)) (put2_bel (b := w.heap.size) (x := (.int .i64 as_)) (y := (.slice Aa ar.length ca)) hbel (by omega)) (by omega)) (by omega))
  clear r0 rf0 r1 rf1 r2 rf2 r3 rf3 r4 rf4 r5 rf5
  generalize (((((w2.setCell ⟨w.heap.size, 0, none⟩ ((.int .i64 as_))).setCell ⟨w.heap.size, 1, none⟩ ((.slice Aa ar.length ca))).setCell ⟨w.heap.size + 1, 0, none⟩ ((.int .i64 bs_))).setCell ⟨w.heap.size + 1, 1, none⟩ ((.slice Ab br.length cb))).setCell ⟨w.heap.size + 2, 0, none⟩ ((.slice A0 m.sorts.length c0))).setCell ⟨w.heap.size + 2, 1, none⟩ ((.slice A1 m.ops.length c1)) = w9 at d0 d1 d2 HLOW HBEL ⊢
  have k0 := block_cell d0 0
  have k1 := block_cell d0 1
  have k2 := block_cell d1 0
  have k3 := block_cell d1 1
  have k4 := block_cell d2 0
  have k5 := block_cell d2 1
  simp at k0 k1 k2 k3 k4 k5
  refine bodyPost_ret (v := .tuple #[.agg #[.int .i64 as_, .slice Aa ar.length ca], .agg #[.int .i64 bs_, .slice Ab br.length cb], .agg #[.slice A0 m.sorts.length c0, .slice A1 m.ops.length c1]]) (by simp [results, Try.results9, go_sem, k0, k1, k2, k3, k4, k5]) rfl ?_
  exact ⟨_, _, _, ⟨as_, ar⟩, ⟨bs_, br⟩, m, rfl, OSig.base (B := w1.heap.size) ⟨_, rfl, oa.same (fun k h1 h2 => HLOW.out k (by omega))⟩ (by omega), hfa, OSig.base (B := w1.heap.size) ⟨_, rfl, ob.same (fun k h1 h2 => HLOW.out k (by omega))⟩ (by omega), hfb, OMapD.base (B := w1.heap.size) ⟨_, _, rfl, o0.same (fun k h1 h2 => HLOW.out k (by omega)), o1.same (fun k h1 h2 => HLOW.out k (by omega))⟩ (by omega), hms, hmo, HBEL.out⟩
end

section
open Go.RowKit
set_option linter.unusedVariables false

theorem sameInts_any (v v' : Value) (xs ys : List Int) (w : World) (h : RInts w v xs) (h' : RInts w v' ys) :
    Calls Try.prog 22 #[v, v'] w fun e w' => e = .returned (.bool (sameI xs ys)) ∧ Drawn w w' := by
  have H := Lib.hid h
  have H' := Lib.hid h'
  have hn := h.len
  have hn' := h'.len
  obtain ⟨A, c, rfl, -⟩ := h.form
  obtain ⟨A', c', rfl, -⟩ := h'.form
  clear h h'
  by_cases hl : xs.length = ys.length
  · have hl' : ((xs.length : Int) != (ys.length : Int)) = false := by simp [hl]
    have HL := Lib.hid hl
    have hle : xs.length ≤ ys.length := by omega
    have hge : ys.length ≤ xs.length := by omega
    clear hl
    go_enter Try.func22, Try.ntmps22
    go_wp2
    go_loopw [5] (fun i wr => ∃ k : Nat, k ≤ xs.length ∧ i = .int .i64 k ∧ xs.take k = ys.take k ∧ Drawn w wr) (fun i _ => xs.length - (intOf i).toNat)
    case atStart => exact ⟨0, Nat.zero_le _, rfl, rfl, Drawn.refl _⟩
    case round =>
      obtain ⟨k, hk, rfl, hb0, hd⟩ := hrel
      have hb := Lib.hid hb0
      have HD := Lib.hid hd
      clear hb0 hd
      by_cases hlt : k < xs.length
      · obtain ⟨b, o, c3, e, hx⟩ := (H.out.keep HD.out.below).at_ hlt
        cases e
        obtain ⟨b', o', c4, e, hy⟩ := (H'.out.keep HD.out.below).at_ (show k < ys.length by omega)
        cases e
        have hs1 : (k : Int) < (xs.length : Int) := by omega
        have hs2 : (k : Int) < (ys.length : Int) := by omega
        have HT := Lib.hid (take_succ_eq hlt (show k < ys.length by omega) hb.out)
        have HN := Lib.hid (ne_of_at hlt (show k < ys.length by omega))
        generalize xs[k] = x at hx HT HN
        generalize ys[k]'(by omega) = y at hy HT HN
        by_cases hxy : x = y
        · subst hxy
          have e1 : (x != x) = false := by simp
          have e2 : (x == x) = true := by simp
          go_wp2_with fail
          go_quiet (fail)
          go_wp2
          go_roundw
          case rel => exact ⟨k + 1, by omega, by go_num, HT.out (by simp), HD.out.more _⟩
          case measure => simp [intOf]; omega
        · have e1 : (x != y) = true := by simpa using hxy
          have e2 : (x == y) = false := by simpa using hxy
          have HXY := Lib.hid hxy
          clear hxy
          go_wp2_with fail
          go_quiet (fail)
          go_wp2
          go_ret
          exact ⟨ret_bool (by unfold sameI; simpa using (HN.out HXY.out)), HD.out.more _⟩
      · go_wp2
        go_ret
        have h := hb.out
        rw [take_all (by omega), take_all (by omega)] at h
        exact ⟨ret_bool (by unfold sameI; simpa using h), HD.out⟩
  · have hl' : ((xs.length : Int) != (ys.length : Int)) = true := by simp; omega
    have HL := Lib.hid hl
    clear hl
    go_enter Try.func22, Try.ntmps22
    go_wp2
    go_ret
    exact ⟨ret_bool (by unfold sameI; simp; rintro rfl; exact HL.out rfl), Drawn.refl _⟩

theorem sameInts_is (v v' : Value) (xs ys : List Int) (w : World) (b : Bool) (hb : sameI xs ys = b) (h : RInts w v xs) (h' : RInts w v' ys) :
    Calls Try.prog 22 #[v, v'] w fun e w' => e = .returned (.bool b) ∧ Drawn w w' := by
  subst hb; exact sameInts_any v v' xs ys w h h'
end
end Go.Proofs.Ytkhabmoidpgapab
