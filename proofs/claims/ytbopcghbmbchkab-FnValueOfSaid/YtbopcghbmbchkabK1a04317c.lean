/- l5Value of package spec: the value of the term at a place. By recursion on the term. · ValueOf of both packages. · A row of numbers at the end of an own one, whatever its address. · Equality of rows, of lists of rows, of signatures (package laws). -/
import Derived.Test.YtbopcghbmbchkabK368fa2c9
import Derived.Lib.AppendZeros
import Derived.Deep.AppendSrc
import Derived.Deep.Upon
namespace Go.Proofs.Ytbopcghbmbchkab
section
open Go.RowKit
set_option linter.unusedVariables false
set_option linter.unusedSimpArgs false

theorem rows_split : ∀ (ts : List Tm) (j : Nat) (hj : j < ts.length), rowsOf ts = rowsOf (ts.take j) ++ (ts[j].row ++ rowsOf (ts.drop (j + 1)))
  | t :: ts, 0, h => by simp [rowsOf]
  | t :: ts, j + 1, h => by
    simp only [List.take_succ_cons, List.getElem_cons_succ, List.drop_succ_cons, rowsOf]
    rw [rows_split ts j (by simpa using h), List.append_assoc]
theorem rows_take_len {ts : List Tm} {j : Nat} (hj : j < ts.length) : (rowsOf (ts.take (j + 1))).length = (rowsOf (ts.take j)).length + ts[j].row.length := by
  have h := rows_split (ts.take (j + 1)) j (by rw [List.length_take]; omega)
  rw [h]
  simp only [List.length_append, List.take_take, List.getElem_take]
  rw [Nat.min_eq_left (by omega), List.drop_of_length_le (by rw [List.length_take]; omega)]
  simp [rowsOf]
theorem drop_at {t b : List Int} {ts : List Tm} {k j : Nat} (h : t.drop (k + 1) = rowsOf ts ++ b) (hj : j < ts.length) : t.drop (k + 1 + (rowsOf (ts.take j)).length) = ts[j].row ++ (rowsOf (ts.drop (j + 1)) ++ b) := by
  rw [← List.drop_drop, h, rows_split ts j hj, List.append_assoc, List.drop_left, List.append_assoc]

def L5At (s : MSig) (m : MModel) (t vals : List Int) (tm : Tm) : Prop := ∀ (k : Nat) (b : List Int) (w : World) (v v' tv vv : Value), t.drop k = tm.row ++ b → RSig w v s → RModel w v' m → RInts w tv t → RInts w vv vals →
  Calls Try.prog 73 #[v, v', tv, .int .i64 (k : Int), vv] w fun e w' => e = .returned (.tuple #[.int .i64 (valT m vals tm), .int .i64 ((k + tm.row.length : Nat) : Int)]) ∧ Below w.heap.size w w'

set_option maxHeartbeats 800000 in
set_option maxRecDepth 100000 in
theorem l5_leaf (s : MSig) (m : MModel) (t vals : List Int) (ht : t.length ≤ 30) (kk : Nat) (of : Int) (hk : kk < vals.length) (hv4 : vals.length ≤ 4) : L5At s m t vals (.leaf kk of) := by
  intro k b w v v' tv vv hd h1 h2 h3 h4
  simp only [Tm.row, List.singleton_append] at hd
  have hkt : k < t.length := by
    by_cases h : k < t.length
    · exact h
    · rw [List.drop_of_length_le (by omega)] at hd; cases hd
  have htk : t[k] = 100 + (kk : Int) := by
    have := List.drop_eq_getElem_cons hkt
    rw [this] at hd
    injection hd
  obtain ⟨Asa, csa, rfl⟩ := h1.form
  obtain ⟨Ama, cma, Amb, cmb, rfl⟩ := h2.form
  have hb : Below w.heap.size w ((w.alloc (.cells #[.int .i64 s.sorts, .slice Asa s.ops.length csa] 25)).alloc (.cells #[.slice Ama m.sizes.length cma, .slice Amb m.tables.length cmb] 30)) := (below_alloc _ _).alloc (by simp) _
  have HB := Lib.hid hb
  have hsz : ((w.alloc (.cells #[.int .i64 s.sorts, .slice Asa s.ops.length csa] 25)).alloc (.cells #[.slice Ama m.sizes.length cma, .slice Amb m.tables.length cmb] 30)).heap.size = w.heap.size + 2 := by simp
  have Hs := Lib.hid (h1.keep hb)
  have s0 := cell_keep (below_alloc (w.alloc (.cells #[.int .i64 s.sorts, .slice Asa s.ops.length csa] 25)) (.cells #[.slice Ama m.sizes.length cma, .slice Amb m.tables.length cmb] 30)) (bx_at (w) #[.int .i64 s.sorts, .slice Asa s.ops.length csa] 25 (k := 0) rfl)
  have s1 := cell_keep (below_alloc (w.alloc (.cells #[.int .i64 s.sorts, .slice Asa s.ops.length csa] 25)) (.cells #[.slice Ama m.sizes.length cma, .slice Amb m.tables.length cmb] 30)) (bx_at (w) #[.int .i64 s.sorts, .slice Asa s.ops.length csa] 25 (k := 1) rfl)
  have Hm := Lib.hid (h2.keep hb)
  have m0 := bx_at (w.alloc (.cells #[.int .i64 s.sorts, .slice Asa s.ops.length csa] 25)) #[.slice Ama m.sizes.length cma, .slice Amb m.tables.length cmb] 30 (k := 0) rfl
  have m1 := bx_at (w.alloc (.cells #[.int .i64 s.sorts, .slice Asa s.ops.length csa] 25)) #[.slice Ama m.sizes.length cma, .slice Amb m.tables.length cmb] 30 (k := 1) rfl
  simp only [World.size_alloc] at m0 m1
  generalize hW : (w.alloc (.cells #[.int .i64 s.sorts, .slice Asa s.ops.length csa] 25)).alloc (.cells #[.slice Ama m.sizes.length cma, .slice Amb m.tables.length cmb] 30) = W at HB hsz Hs s0 s1 Hm m0 m1
  clear hb h1 h2
  obtain ⟨b3, o3, c3, e, hx⟩ := (h3.keep HB.out).at_ hkt
  cases e
  rw [htk] at hx
  obtain ⟨b4, o4, c4, e, hy⟩ := (h4.keep HB.out).at_ hk
  cases e
  have HR := Lib.hid (show valT m vals (.leaf kk of) = vals[kk] by simp only [valT]; exact getD_at _ hk)
  generalize vals[kk] = y at hy HR
  have hk' : (kk : Int) < (vals.length : Int) := by omega
  have hkt' : (k : Int) < (t.length : Int) := by omega
  have hw1 : IntKind.i64.wrap (100 + (kk : Int) - 100) = (kk : Int) := by rw [IntKind.wrap_i64]; omega
  have hw2 : IntKind.i64.wrap ((k : Int) + 1) = (k : Int) + 1 := by rw [IntKind.wrap_i64]; omega
  have hge : (100 : Int) ≤ 100 + (kk : Int) := by omega
  clear h3 h4 hd htk s0 s1 m0 m1
  go_enter Try.func73, Try.ntmps73
  go_wp2
  refine bodyPost_ret (v := .tuple #[.int .i64 y, .int .i64 ((k : Int) + 1)]) (by simp [results, Try.results73, go_sem]) rfl ?_
  rw [HR.out]
  exact ⟨by simp [Tm.row], HB.out⟩

set_option maxHeartbeats 3200000 in
set_option maxRecDepth 100000 in
theorem l5_node (s : MSig) (m : MModel) (vars t vals : List Int) (ht : t.length ≤ 30) (hf : ModFacts s m) (hv : ValsOk m vars vals) (op : Nat) (lv : Int) (ts : List Tm) (hw : wfT s vars (.node op lv ts)) (ih : ∀ (k : Nat) (h : k < ts.length), L5At s m t vals ts[k]) : L5At s m t vals (.node op lv ts) := by
  intro k b w v v' tv vv hd h1 h2 h3 h4
  simp only [Tm.row, List.cons_append] at hd
  have hkt : k < t.length := by
    by_cases h : k < t.length
    · exact h
    · rw [List.drop_of_length_le (by omega)] at hd; cases hd
  have htk : t[k] = (op : Int) ∧ t.drop (k + 1) = rowsOf ts ++ b := by
    have := List.drop_eq_getElem_cons hkt
    rw [this] at hd
    injection hd with e1 e2
    exact ⟨e1, e2⟩
  obtain ⟨htk, hd2⟩ := htk
  have HST := Lib.hid (sizesT_taken hf hw)
  obtain ⟨pn, hop, hpn, hpl, hval⟩ := place_table hf hv hw
  have hw0 := hw
  unfold wfT at hw0
  obtain ⟨hk, -, hts⟩ := hw0
  have hinn := valTs_in hf hv ts _ hts
  have hszz : Sizes (sizesT m ts) := by rw [HST.out]; exact (hf.taken hk).1
  have hl2 : ts.length ≤ 2 := by
    have := (hf.taken hk).2
    rw [← HST.out, sizesT_len] at this
    exact this
  have HWR := Lib.hid (fun (j : Nat) (h : j < (sizesT m ts).length) (h' : j < (valTs m vals ts).length) => place_wrap hszz (by rw [sizesT_len]; omega) hinn h h')
  have hsrt := wfTs_sorts hts
  have hrv := opRow_valid hf.va hk
  rw [opRow_at hk] at hsrt hrv
  have hrl : s.ops[op].length = ts.length + 1 := by
    have := congrArg List.length hsrt
    rw [List.length_dropLast, List.length_map] at this
    have := hrv.1
    omega
  have HSO := Lib.hid (show ∀ (j : Nat) (h : j < ts.length) (h' : j < s.ops[op].length), s.ops[op][j] = ts[j].sort ∧ 0 ≤ ts[j].sort ∧ ts[j].sort < (m.sizes.length : Int) from fun j h h' => by
    have e1 : s.ops[op].dropLast[j]? = (ts.map Tm.sort)[j]? := by rw [hsrt]
    rw [List.getElem?_map, List.getElem?_eq_getElem h, List.getElem?_eq_getElem (by rw [List.length_dropLast]; omega), List.getElem_dropLast] at e1
    have e2 : s.ops[op][j] = ts[j].sort := by simpa using e1
    have h5 := hrv.2.2 _ (List.getElem_mem h')
    have h6 := hf.sl
    rw [e2] at h5
    exact ⟨e2, by omega, by omega⟩)
  have HIH := Lib.hid ih
  have HPL := Lib.hid hpl
  have HVAL := Lib.hid hval
  have HD := Lib.hid (fun (j : Nat) (hj : j < ts.length) => drop_at hd2 hj)
  have hfin : k + 1 + (rowsOf ts).length ≤ 30 := by
    have := congrArg List.length hd2
    rw [List.length_drop, List.length_append] at this
    omega
  have HFIN := Lib.hid hfin
  have hops6 : s.ops.length ≤ 6 := (valid_sorts hf.va).2.2
  clear hfin hw hts hpl hval hf hv ih hinn hszz hsrt hd hd2
  obtain ⟨Asa, csa, rfl⟩ := h1.form
  obtain ⟨Ama, cma, Amb, cmb, rfl⟩ := h2.form
  have hb : Below w.heap.size w ((w.alloc (.cells #[.int .i64 s.sorts, .slice Asa s.ops.length csa] 25)).alloc (.cells #[.slice Ama m.sizes.length cma, .slice Amb m.tables.length cmb] 30)) := (below_alloc _ _).alloc (by simp) _
  have HB := Lib.hid hb
  have hsz : ((w.alloc (.cells #[.int .i64 s.sorts, .slice Asa s.ops.length csa] 25)).alloc (.cells #[.slice Ama m.sizes.length cma, .slice Amb m.tables.length cmb] 30)).heap.size = w.heap.size + 2 := by simp
  have Hs := Lib.hid (h1.keep hb)
  have s0 := cell_keep (below_alloc (w.alloc (.cells #[.int .i64 s.sorts, .slice Asa s.ops.length csa] 25)) (.cells #[.slice Ama m.sizes.length cma, .slice Amb m.tables.length cmb] 30)) (bx_at (w) #[.int .i64 s.sorts, .slice Asa s.ops.length csa] 25 (k := 0) rfl)
  have s1 := cell_keep (below_alloc (w.alloc (.cells #[.int .i64 s.sorts, .slice Asa s.ops.length csa] 25)) (.cells #[.slice Ama m.sizes.length cma, .slice Amb m.tables.length cmb] 30)) (bx_at (w) #[.int .i64 s.sorts, .slice Asa s.ops.length csa] 25 (k := 1) rfl)
  have Hm := Lib.hid (h2.keep hb)
  have m0 := bx_at (w.alloc (.cells #[.int .i64 s.sorts, .slice Asa s.ops.length csa] 25)) #[.slice Ama m.sizes.length cma, .slice Amb m.tables.length cmb] 30 (k := 0) rfl
  have m1 := bx_at (w.alloc (.cells #[.int .i64 s.sorts, .slice Asa s.ops.length csa] 25)) #[.slice Ama m.sizes.length cma, .slice Amb m.tables.length cmb] 30 (k := 1) rfl
  simp only [World.size_alloc] at m0 m1
  generalize hW : (w.alloc (.cells #[.int .i64 s.sorts, .slice Asa s.ops.length csa] 25)).alloc (.cells #[.slice Ama m.sizes.length cma, .slice Amb m.tables.length cmb] 30) = W at HB hsz Hs s0 s1 Hm m0 m1
  clear hb h1 h2
  have hsl := Hs.out.of.2.len
  have hml := Hm.out.of.2.len
  have H3 := Lib.hid (h3.keep HB.out)
  have H4 := Lib.hid (h4.keep HB.out)
  obtain ⟨b3, o3, c3, e, hx⟩ := H3.out.at_ hkt
  cases e
  rw [htk] at hx
  obtain ⟨Av, cv, rfl, -⟩ := h4.form
  obtain ⟨b5, o5, c5, u5, e, hy, hry⟩ := Hs.out.of.2.at_ hk
  cases e
  have hhl := hk
  generalize hrow : s.ops[op] = row at hy hry hrl hrv HSO
  have HRY := Lib.hid hry
  obtain ⟨A5, d5, rfl, -⟩ := hry.form
  obtain ⟨b7, o7, c7, u7, e, ht7, hr7⟩ := Hm.out.of.2.at_ hop
  cases e
  obtain ⟨b8, o8, c8, e, ht8⟩ := hr7.at_ hpn
  subst e
  generalize m.tables[op][pn] = y at ht8 HVAL
  clear hr7
  generalize m.tables[op].length = tl at ht7 hpn
  have hop' : (op : Int) < (m.tables.length : Int) := by omega
  have hops' : (op : Int) < (s.ops.length : Int) := by omega
  have hpn' : (pn : Int) < (tl : Int) := by omega
  have hkt' : (k : Int) < (t.length : Int) := by omega
  have hop0 : (0 : Int) ≤ (op : Int) := by omega
  have hpn0 : (0 : Int) ≤ (pn : Int) := by omega
  have hk0 : (0 : Int) ≤ (k : Int) := by omega
  have hw2 : IntKind.i64.wrap ((k : Int) + 1) = (k : Int) + 1 := by rw [IntKind.wrap_i64]; omega
  have hlt100 : ¬ (100 : Int) ≤ (op : Int) := by omega
  have HC := Lib.hid (And.intro s0 (And.intro s1 (And.intro m0 (And.intro m1 (And.intro hx (And.intro ht7 ht8))))))
  clear h3 h4 hry hrow hhl htk
  go_enter Try.func73, Try.ntmps73
  go_wp2_with fail
  clear hW
  refine wp_region_held_drew (S := (fun w' => w'.cell? ⟨w.heap.size, 1, none⟩ = some (.slice (some ⟨b5, o5, none⟩) s.ops.length csa) ∧ w'.cell? ⟨b3, o3 + k, none⟩ = some (.int .i64 (op : Int)) ∧ w'.cell? ⟨b5, o5 + op, none⟩ = some (.slice A5 row.length d5))) (by kernel_rfl) ?_ (fun hHeld => ?_)
  · exact ⟨s1, hx, hy⟩
  refine wpAnyH_take (i := 0) (oi := _) (v := ?_) rfl (by kernel_rfl) (by kernel_rfl) (by kernel_rfl) (fun _ _ _ h => h) (Or.inl ⟨by rfl, ?_⟩) (by assumption) ?_
  rotate_left
  · first | (intro w' hSw; (try dsimp only at hSw); go_simp; done) | (intro w' hSw; (try dsimp only at hSw); go_simp; with_reducible rfl)
  try simp only [Act.put, List.getElem_toArray, List.getElem_cons_zero, List.getElem_cons_succ, List.setIfInBounds_toArray, List.set_cons_zero, List.set_cons_succ]
  refine wpAnyH_take (i := 1) (oi := _) (v := ?_) rfl (by kernel_rfl) (by kernel_rfl) (by kernel_rfl) (fun _ _ _ h => h) (Or.inl ⟨by rfl, ?_⟩) (by assumption) ?_
  rotate_left
  · first | (intro w' hSw; (try dsimp only at hSw); go_simp; done) | (intro w' hSw; (try dsimp only at hSw); go_simp; with_reducible rfl)
  try simp only [Act.put, List.getElem_toArray, List.getElem_cons_zero, List.getElem_cons_succ, List.setIfInBounds_toArray, List.set_cons_zero, List.set_cons_succ]
  refine wpAnyH_take (i := 2) (oi := _) (v := ?_) rfl (by kernel_rfl) (by kernel_rfl) (by kernel_rfl) (fun _ _ _ h => h) (Or.inl ⟨by rfl, ?_⟩) (by assumption) ?_
  rotate_left
  · first | (intro w' hSw; (try dsimp only at hSw); go_simp; done) | (intro w' hSw; (try dsimp only at hSw); go_simp; with_reducible rfl)
  try simp only [Act.put, List.getElem_toArray, List.getElem_cons_zero, List.getElem_cons_succ, List.setIfInBounds_toArray, List.set_cons_zero, List.set_cons_succ]
  refine wpAnyH_take (i := 3) (oi := _) (v := ?_) rfl (by kernel_rfl) (by kernel_rfl) (by kernel_rfl) (fun _ _ _ h => h) (Or.inl ⟨by rfl, ?_⟩) (by assumption) ?_
  rotate_left
  · first | (intro w' hSw; (try dsimp only at hSw); go_simp; done) | (intro w' hSw; (try dsimp only at hSw); go_simp; with_reducible rfl)
  try simp only [Act.put, List.getElem_toArray, List.getElem_cons_zero, List.getElem_cons_succ, List.setIfInBounds_toArray, List.set_cons_zero, List.set_cons_succ]
  refine wpAnyH_take (i := 4) (oi := _) (v := ?_) rfl (by kernel_rfl) (by kernel_rfl) (by kernel_rfl) (fun _ _ _ h => h) (Or.inl ⟨by rfl, ?_⟩) (by assumption) ?_
  rotate_left
  · first | (intro w' hSw; (try dsimp only at hSw); go_simp; done) | (intro w' hSw; (try dsimp only at hSw); go_simp; with_reducible rfl)
  try simp only [Act.put, List.getElem_toArray, List.getElem_cons_zero, List.getElem_cons_succ, List.setIfInBounds_toArray, List.set_cons_zero, List.set_cons_succ]
  refine wpAnyH_take (i := 5) (oi := _) (v := ?_) rfl (by kernel_rfl) (by kernel_rfl) (by kernel_rfl) (fun _ _ _ h => h) (Or.inl ⟨by rfl, ?_⟩) (by assumption) ?_
  rotate_left
  · first | (intro w' hSw; (try dsimp only at hSw); go_simp; done) | (intro w' hSw; (try dsimp only at hSw); go_simp; with_reducible rfl)
  try simp only [Act.put, List.getElem_toArray, List.getElem_cons_zero, List.getElem_cons_succ, List.setIfInBounds_toArray, List.set_cons_zero, List.set_cons_succ]
  refine wpAnyH_take (i := 6) (oi := _) (v := ?_) rfl (by kernel_rfl) (by kernel_rfl) (by kernel_rfl) (fun _ _ _ h => h) (Or.inl ⟨by rfl, ?_⟩) (by assumption) ?_
  rotate_left
  · first | (intro w' hSw; (try dsimp only at hSw); go_simp; done) | (intro w' hSw; (try dsimp only at hSw); go_simp; with_reducible rfl)
  try simp only [Act.put, List.getElem_toArray, List.getElem_cons_zero, List.getElem_cons_succ, List.setIfInBounds_toArray, List.set_cons_zero, List.set_cons_succ]
  refine wpAnyH_take (i := 7) (oi := _) (v := ?_) rfl (by kernel_rfl) (by kernel_rfl) (by kernel_rfl) (fun _ _ _ h => h) (Or.inl ⟨by rfl, ?_⟩) (by assumption) ?_
  rotate_left
  · first | (intro w' hSw; (try dsimp only at hSw); go_simp; done) | (intro w' hSw; (try dsimp only at hSw); go_simp; with_reducible rfl)
  try simp only [Act.put, List.getElem_toArray, List.getElem_cons_zero, List.getElem_cons_succ, List.setIfInBounds_toArray, List.set_cons_zero, List.set_cons_succ]
  refine wpAnyH_take (i := 8) (oi := _) (v := ?_) rfl (by kernel_rfl) (by kernel_rfl) (by kernel_rfl) (fun _ _ _ h => h) (Or.inl ⟨by rfl, ?_⟩) (by assumption) ?_
  rotate_left
  · first | (intro w' hSw; (try dsimp only at hSw); go_simp; done) | (intro w' hSw; (try dsimp only at hSw); go_simp; with_reducible rfl)
  try simp only [Act.put, List.getElem_toArray, List.getElem_cons_zero, List.getElem_cons_succ, List.setIfInBounds_toArray, List.set_cons_zero, List.set_cons_succ]
  refine wpAnyH_done (by kernel_rfl) ?_ _
  clear s0 s1 m0 m1 hx hy ht7 ht8
  go_wp2
  go_loopw [13, 14, 15, 16, 17] (fun p q i _ _ wr => ∃ j : Nat, j ≤ ts.length ∧ i = .int .i64 j ∧ p = .int .i64 (placeM 0 ((sizesT m ts).take j) ((valTs m vals ts).take j)) ∧ q = .int .i64 ((k + 1 + (rowsOf (ts.take j)).length : Nat) : Int) ∧ Below W.heap.size W wr) (fun _ _ i _ _ _ => ts.length - (intOf i).toNat)
  case atStart => exact ⟨0, Nat.zero_le _, rfl, rfl, by simp [rowsOf], map_drew (Below.refl _ _)⟩
  case round =>
    obtain ⟨j, hj, rfl, rfl, rfl, hd⟩ := hrel
    have HBR := Lib.hid hd
    have f0 := cell_keep hd HC.out.1
    have f1 := cell_keep hd HC.out.2.1
    have f2 := cell_keep hd HC.out.2.2.1
    have f3 := cell_keep hd HC.out.2.2.2.1
    clear hd
    have hw3 : IntKind.i64.wrap ((j : Int) + 1) = (j : Int) + 1 := by rw [IntKind.wrap_i64]; omega
    by_cases hlt : j < ts.length
    · have hlt' : (j : Int) + 1 < (row.length : Int) := by omega
      have hjr : j < row.length := by omega
      have hjr' : (j : Int) < (row.length : Int) := by omega
      have hjr2 : (j : Int) < (ts.length : Int) + 1 := by omega
      obtain ⟨b9, o9, c9, e, hcr⟩ := (HRY.out.keep HBR.out).at_ hjr
      have HFM := Lib.hid e
      cases e
      have HSJ := HSO.out j hlt hjr
      have HDJ := Lib.hid (HD.out j hlt)
      have HIJ := Lib.hid (HIH.out j hlt)
      have HNX := Lib.hid (rows_take_len hlt)
      have HXK := Lib.hid (show (sizesT m ts)[j]'(by rw [sizesT_len]; exact hlt) = m.sizes.getD ts[j].sort.toNat 0 by simp [sizesT])
      have HYK := Lib.hid (show (valTs m vals ts)[j]'(by rw [valTs_len]; exact hlt) = valT m vals ts[j] by simp [valTs_map])
      obtain ⟨a, hp1, hp2⟩ := HWR.out j (by rw [sizesT_len]; exact hlt) (by rw [valTs_len]; exact hlt)
      rw [HXK.out] at hp1
      rw [HYK.out] at hp2
      clear HXK HYK
      generalize ts[j] = tj at HSJ HDJ HIJ HNX hp1 hp2
      obtain ⟨g1, g2, g3⟩ := HSJ
      obtain ⟨n, hn⟩ : ∃ n : Nat, tj.sort = (n : Int) := ⟨tj.sort.toNat, by omega⟩
      rw [hn] at g1 g2 g3 hp1
      rw [g1] at hcr
      have hnl : n < m.sizes.length := by omega
      have hnl' : (n : Int) < (m.sizes.length : Int) := by omega
      obtain ⟨b6, o6, c6, e6, hz6⟩ := (Hm.out.of.1.keep HBR.out).at_ hnl
      cases e6
      rw [Int.toNat_natCast, getD_at _ hnl] at hp1
      generalize m.sizes[n] = z at hz6 hp1
      generalize placeM 0 ((sizesT m ts).take j) ((valTs m vals ts).take j) = pp at hp1
      generalize hqq : placeM 0 ((sizesT m ts).take (j + 1)) ((valTs m vals ts).take (j + 1)) = qq at hp2
      have HQQ := Lib.hid hqq
      generalize hvv : valT m vals tj = vj at hp2
      have HVV := Lib.hid hvv
      have HEE := Lib.hid (show k + 1 + (rowsOf (ts.take j)).length + tj.row.length = k + 1 + (rowsOf (ts.take (j + 1))).length by have := HNX.out; omega)
      generalize k + 1 + (rowsOf (ts.take j)).length = e0 at HDJ HEE
      clear g1 g2 g3 hn hqq hvv
      go_wp2_with fail
      refine (HIJ.out e0 _ _ _ _ _ _ HDJ.out (Hs.out.keep HBR.out) (Hm.out.keep HBR.out) (H3.out.keep HBR.out) (H4.out.keep HBR.out)).mono ?_
      rw [HVV.out, HEE.out]
      rintro x w4 ⟨rfl, hb4⟩
      have HX4 := Lib.hid (sz_keep HBR.out hb4)
      replace f0 := cell_keep hb4 f0
      replace f1 := cell_keep hb4 f1
      replace f2 := cell_keep hb4 f2
      replace f3 := cell_keep hb4 f3
      replace hcr := cell_keep hb4 hcr
      replace hz6 := cell_keep hb4 hz6
      generalize hee1 : k + 1 + (rowsOf (ts.take (j + 1))).length = e1 at HEE
      have HE1 := Lib.hid hee1
      clear hb4 hee1
      go_wp2_with fail
      refine wp_region_held_drew (S := (fun w' => w'.cell? ⟨w.heap.size + 1, 0, none⟩ = some (.slice (some ⟨b6, o6, none⟩) m.sizes.length cma) ∧ w'.cell? ⟨b9, o9 + j, none⟩ = some (.int .i64 (n : Int)) ∧ w'.cell? ⟨b6, o6 + n, none⟩ = some (.int .i64 z))) (by kernel_rfl) ?_ (fun hHeld => ?_)
      · exact ⟨f2, hcr, hz6⟩
      refine wpAnyH_take (i := 0) (oi := _) (v := ?_) rfl (by kernel_rfl) (by kernel_rfl) (by kernel_rfl) (fun _ _ _ h => h) (Or.inl ⟨by rfl, ?_⟩) (by assumption) ?_
      rotate_left
      · first | (intro w' hSw; (try dsimp only at hSw); go_simp; done) | (intro w' hSw; (try dsimp only at hSw); go_simp; with_reducible rfl)
      try simp only [Act.put, List.getElem_toArray, List.getElem_cons_zero, List.getElem_cons_succ, List.setIfInBounds_toArray, List.set_cons_zero, List.set_cons_succ]
      refine wpAnyH_take (i := 1) (oi := _) (v := ?_) rfl (by kernel_rfl) (by kernel_rfl) (by kernel_rfl) (fun _ _ _ h => h) (Or.inl ⟨by rfl, ?_⟩) (by assumption) ?_
      rotate_left
      · first | (intro w' hSw; (try dsimp only at hSw); go_simp; done) | (intro w' hSw; (try dsimp only at hSw); go_simp; with_reducible rfl)
      try simp only [Act.put, List.getElem_toArray, List.getElem_cons_zero, List.getElem_cons_succ, List.setIfInBounds_toArray, List.set_cons_zero, List.set_cons_succ]
      refine wpAnyH_take (i := 2) (oi := _) (v := ?_) rfl (by kernel_rfl) (by kernel_rfl) (by kernel_rfl) (fun _ _ _ h => h) (Or.inl ⟨by rfl, ?_⟩) (by assumption) ?_
      rotate_left
      · first | (intro w' hSw; (try dsimp only at hSw); go_simp; done) | (intro w' hSw; (try dsimp only at hSw); go_simp; with_reducible rfl)
      try simp only [Act.put, List.getElem_toArray, List.getElem_cons_zero, List.getElem_cons_succ, List.setIfInBounds_toArray, List.set_cons_zero, List.set_cons_succ]
      refine wpAnyH_take (i := 3) (oi := _) (v := ?_) rfl (by kernel_rfl) (by kernel_rfl) (by kernel_rfl) (fun _ _ _ h => h) (Or.inl ⟨by rfl, ?_⟩) (by assumption) ?_
      rotate_left
      · first | (intro w' hSw; (try dsimp only at hSw); go_simp; done) | (intro w' hSw; (try dsimp only at hSw); go_simp; with_reducible rfl)
      try simp only [Act.put, List.getElem_toArray, List.getElem_cons_zero, List.getElem_cons_succ, List.setIfInBounds_toArray, List.set_cons_zero, List.set_cons_succ]
      refine wpAnyH_take (i := 4) (oi := _) (v := ?_) rfl (by kernel_rfl) (by kernel_rfl) (by kernel_rfl) (fun _ _ _ h => h) (Or.inl ⟨by rfl, ?_⟩) (by assumption) ?_
      rotate_left
      · first | (intro w' hSw; (try dsimp only at hSw); go_simp; done) | (intro w' hSw; (try dsimp only at hSw); go_simp; with_reducible rfl)
      try simp only [Act.put, List.getElem_toArray, List.getElem_cons_zero, List.getElem_cons_succ, List.setIfInBounds_toArray, List.set_cons_zero, List.set_cons_succ]
      refine wpAnyH_take (i := 5) (oi := _) (v := ?_) rfl (by kernel_rfl) (by kernel_rfl) (by kernel_rfl) (fun _ _ _ h => h) (Or.inl ⟨by rfl, ?_⟩) (by assumption) ?_
      rotate_left
      · first | (intro w' hSw; (try dsimp only at hSw); go_simp; done) | (intro w' hSw; (try dsimp only at hSw); go_simp; with_reducible rfl)
      try simp only [Act.put, List.getElem_toArray, List.getElem_cons_zero, List.getElem_cons_succ, List.setIfInBounds_toArray, List.set_cons_zero, List.set_cons_succ]
      refine wpAnyH_take (i := 6) (oi := _) (v := ?_) rfl (by kernel_rfl) (by kernel_rfl) (by kernel_rfl) (fun _ _ _ h => h) (Or.inl ⟨by rfl, ?_⟩) (by assumption) ?_
      rotate_left
      · first | (intro w' hSw; (try dsimp only at hSw); go_simp; done) | (intro w' hSw; (try dsimp only at hSw); go_simp; with_reducible rfl)
      try simp only [Act.put, List.getElem_toArray, List.getElem_cons_zero, List.getElem_cons_succ, List.setIfInBounds_toArray, List.set_cons_zero, List.set_cons_succ]
      refine wpAnyH_take (i := 7) (oi := _) (v := ?_) rfl (by kernel_rfl) (by kernel_rfl) (by kernel_rfl) (fun _ _ _ h => h) (Or.inl ⟨by rfl, ?_⟩) (by assumption) ?_
      rotate_left
      · first | (intro w' hSw; (try dsimp only at hSw); go_simp; done) | (intro w' hSw; (try dsimp only at hSw); go_simp; with_reducible rfl)
      try simp only [Act.put, List.getElem_toArray, List.getElem_cons_zero, List.getElem_cons_succ, List.setIfInBounds_toArray, List.set_cons_zero, List.set_cons_succ]
      refine wpAnyH_take (i := 8) (oi := _) (v := ?_) rfl (by kernel_rfl) (by kernel_rfl) (by kernel_rfl) (fun _ _ _ h => h) (Or.inl ⟨by rfl, ?_⟩) (by assumption) ?_
      rotate_left
      · first | (intro w' hSw; (try dsimp only at hSw); go_simp; done) | (intro w' hSw; (try dsimp only at hSw); go_simp; with_reducible rfl)
      try simp only [Act.put, List.getElem_toArray, List.getElem_cons_zero, List.getElem_cons_succ, List.setIfInBounds_toArray, List.set_cons_zero, List.set_cons_succ]
      refine wpAnyH_take (i := 9) (oi := _) (v := ?_) rfl (by kernel_rfl) (by kernel_rfl) (by kernel_rfl) (fun _ _ _ h => h) (Or.inl ⟨by rfl, ?_⟩) (by assumption) ?_
      rotate_left
      · first | (intro w' hSw; (try dsimp only at hSw); go_simp; done) | (intro w' hSw; (try dsimp only at hSw); go_simp; with_reducible rfl)
      try simp only [Act.put, List.getElem_toArray, List.getElem_cons_zero, List.getElem_cons_succ, List.setIfInBounds_toArray, List.set_cons_zero, List.set_cons_succ]
      refine wpAnyH_take (i := 10) (oi := _) (v := ?_) rfl (by kernel_rfl) (by kernel_rfl) (by kernel_rfl) (fun _ _ _ h => h) (Or.inl ⟨by rfl, ?_⟩) (by assumption) ?_
      rotate_left
      · first | (intro w' hSw; (try dsimp only at hSw); go_simp; done) | (intro w' hSw; (try dsimp only at hSw); go_simp; with_reducible rfl)
      try simp only [Act.put, List.getElem_toArray, List.getElem_cons_zero, List.getElem_cons_succ, List.setIfInBounds_toArray, List.set_cons_zero, List.set_cons_succ]
      refine wpAnyH_take (i := 11) (oi := _) (v := ?_) rfl (by kernel_rfl) (by kernel_rfl) (by kernel_rfl) (fun _ _ _ h => h) (Or.inl ⟨by rfl, ?_⟩) (by assumption) ?_
      rotate_left
      · first | (intro w' hSw; (try dsimp only at hSw); go_simp; done) | (intro w' hSw; (try dsimp only at hSw); go_simp; with_reducible rfl)
      try simp only [Act.put, List.getElem_toArray, List.getElem_cons_zero, List.getElem_cons_succ, List.setIfInBounds_toArray, List.set_cons_zero, List.set_cons_succ]
      refine wpAnyH_take (i := 12) (oi := _) (v := ?_) rfl (by kernel_rfl) (by kernel_rfl) (by kernel_rfl) (fun _ _ _ h => h) (Or.inl ⟨by rfl, ?_⟩) (by assumption) ?_
      rotate_left
      · first | (intro w' hSw; (try dsimp only at hSw); go_simp; done) | (intro w' hSw; (try dsimp only at hSw); go_simp; with_reducible rfl)
      try simp only [Act.put, List.getElem_toArray, List.getElem_cons_zero, List.getElem_cons_succ, List.setIfInBounds_toArray, List.set_cons_zero, List.set_cons_succ]
      refine wpAnyH_done (by kernel_rfl) ?_ _
      have HX5 := Lib.hid (map_drew HX4.out)
      clear f0 f1 f2 f3 hcr hz6
      go_wp2
      go_roundw
      case rel => exact ⟨j + 1, by omega, by go_num, by rw [HQQ.out], by rw [HE1.out], HX5.out⟩
      case measure => simp [intOf]; omega
    · have hjn : j = ts.length := by omega
      have hlt' : ¬ (j : Int) + 1 < (row.length : Int) := by omega
      have HT1 := Lib.hid (show ts.take j = ts from take_all (by omega))
      have HT2 := Lib.hid (show (sizesT m ts).take j = sizesT m ts from take_all (by rw [sizesT_len]; omega))
      have HT3 := Lib.hid (show (valTs m vals ts).take j = valTs m vals ts from take_all (by rw [valTs_len]; omega))
      have g0 := cell_keep HBR.out HC.out.2.2.2.2.1
      have g1 := cell_keep HBR.out HC.out.2.2.2.2.2.1
      have g2 := cell_keep HBR.out HC.out.2.2.2.2.2.2
      rw [HT1.out, HT2.out, HT3.out, HPL.out]
      generalize hee : k + 1 + (rowsOf ts).length = e1
      have HEE := Lib.hid hee
      clear f0 f1 f2 hee
      go_wp2_with fail
      refine wp_region_held_drew (S := (fun w' => w'.cell? ⟨w.heap.size + 1, 1, none⟩ = some (.slice (some ⟨b7, o7, none⟩) m.tables.length cmb) ∧ w'.cell? ⟨b3, o3 + k, none⟩ = some (.int .i64 (op : Int)) ∧ w'.cell? ⟨b7, o7 + op, none⟩ = some (.slice (some ⟨b8, o8, none⟩) tl c8) ∧ w'.cell? ⟨b8, o8 + pn, none⟩ = some (.int .i64 y))) (by kernel_rfl) ?_ (fun hHeld => ?_)
      · exact ⟨f3, g0, g1, g2⟩
      refine wpAnyH_take (i := 0) (oi := _) (v := ?_) rfl (by kernel_rfl) (by kernel_rfl) (by kernel_rfl) (fun _ _ _ h => h) (Or.inl ⟨by rfl, ?_⟩) (by assumption) ?_
      rotate_left
      · first | (intro w' hSw; (try dsimp only at hSw); go_simp; done) | (intro w' hSw; (try dsimp only at hSw); go_simp; with_reducible rfl)
      try simp only [Act.put, List.getElem_toArray, List.getElem_cons_zero, List.getElem_cons_succ, List.setIfInBounds_toArray, List.set_cons_zero, List.set_cons_succ]
      refine wpAnyH_take (i := 1) (oi := _) (v := ?_) rfl (by kernel_rfl) (by kernel_rfl) (by kernel_rfl) (fun _ _ _ h => h) (Or.inl ⟨by rfl, ?_⟩) (by assumption) ?_
      rotate_left
      · first | (intro w' hSw; (try dsimp only at hSw); go_simp; done) | (intro w' hSw; (try dsimp only at hSw); go_simp; with_reducible rfl)
      try simp only [Act.put, List.getElem_toArray, List.getElem_cons_zero, List.getElem_cons_succ, List.setIfInBounds_toArray, List.set_cons_zero, List.set_cons_succ]
      refine wpAnyH_take (i := 2) (oi := _) (v := ?_) rfl (by kernel_rfl) (by kernel_rfl) (by kernel_rfl) (fun _ _ _ h => h) (Or.inl ⟨by rfl, ?_⟩) (by assumption) ?_
      rotate_left
      · first | (intro w' hSw; (try dsimp only at hSw); go_simp; done) | (intro w' hSw; (try dsimp only at hSw); go_simp; with_reducible rfl)
      try simp only [Act.put, List.getElem_toArray, List.getElem_cons_zero, List.getElem_cons_succ, List.setIfInBounds_toArray, List.set_cons_zero, List.set_cons_succ]
      refine wpAnyH_take (i := 3) (oi := _) (v := ?_) rfl (by kernel_rfl) (by kernel_rfl) (by kernel_rfl) (fun _ _ _ h => h) (Or.inl ⟨by rfl, ?_⟩) (by assumption) ?_
      rotate_left
      · first | (intro w' hSw; (try dsimp only at hSw); go_simp; done) | (intro w' hSw; (try dsimp only at hSw); go_simp; with_reducible rfl)
      try simp only [Act.put, List.getElem_toArray, List.getElem_cons_zero, List.getElem_cons_succ, List.setIfInBounds_toArray, List.set_cons_zero, List.set_cons_succ]
      refine wpAnyH_take (i := 4) (oi := _) (v := ?_) rfl (by kernel_rfl) (by kernel_rfl) (by kernel_rfl) (fun _ _ _ h => h) (Or.inl ⟨by rfl, ?_⟩) (by assumption) ?_
      rotate_left
      · first | (intro w' hSw; (try dsimp only at hSw); go_simp; done) | (intro w' hSw; (try dsimp only at hSw); go_simp; with_reducible rfl)
      try simp only [Act.put, List.getElem_toArray, List.getElem_cons_zero, List.getElem_cons_succ, List.setIfInBounds_toArray, List.set_cons_zero, List.set_cons_succ]
      refine wpAnyH_take (i := 5) (oi := _) (v := ?_) rfl (by kernel_rfl) (by kernel_rfl) (by kernel_rfl) (fun _ _ _ h => h) (Or.inl ⟨by rfl, ?_⟩) (by assumption) ?_
      rotate_left
      · first | (intro w' hSw; (try dsimp only at hSw); go_simp; done) | (intro w' hSw; (try dsimp only at hSw); go_simp; with_reducible rfl)
      try simp only [Act.put, List.getElem_toArray, List.getElem_cons_zero, List.getElem_cons_succ, List.setIfInBounds_toArray, List.set_cons_zero, List.set_cons_succ]
      refine wpAnyH_take (i := 6) (oi := _) (v := ?_) rfl (by kernel_rfl) (by kernel_rfl) (by kernel_rfl) (fun _ _ _ h => h) (Or.inl ⟨by rfl, ?_⟩) (by assumption) ?_
      rotate_left
      · first | (intro w' hSw; (try dsimp only at hSw); go_simp; done) | (intro w' hSw; (try dsimp only at hSw); go_simp; with_reducible rfl)
      try simp only [Act.put, List.getElem_toArray, List.getElem_cons_zero, List.getElem_cons_succ, List.setIfInBounds_toArray, List.set_cons_zero, List.set_cons_succ]
      refine wpAnyH_take (i := 7) (oi := _) (v := ?_) rfl (by kernel_rfl) (by kernel_rfl) (by kernel_rfl) (fun _ _ _ h => h) (Or.inl ⟨by rfl, ?_⟩) (by assumption) ?_
      rotate_left
      · first | (intro w' hSw; (try dsimp only at hSw); go_simp; done) | (intro w' hSw; (try dsimp only at hSw); go_simp; with_reducible rfl)
      try simp only [Act.put, List.getElem_toArray, List.getElem_cons_zero, List.getElem_cons_succ, List.setIfInBounds_toArray, List.set_cons_zero, List.set_cons_succ]
      refine wpAnyH_take (i := 8) (oi := _) (v := ?_) rfl (by kernel_rfl) (by kernel_rfl) (by kernel_rfl) (fun _ _ _ h => h) (Or.inl ⟨by rfl, ?_⟩) (by assumption) ?_
      rotate_left
      · first | (intro w' hSw; (try dsimp only at hSw); go_simp; done) | (intro w' hSw; (try dsimp only at hSw); go_simp; with_reducible rfl)
      try simp only [Act.put, List.getElem_toArray, List.getElem_cons_zero, List.getElem_cons_succ, List.setIfInBounds_toArray, List.set_cons_zero, List.set_cons_succ]
      refine wpAnyH_take (i := 9) (oi := _) (v := ?_) rfl (by kernel_rfl) (by kernel_rfl) (by kernel_rfl) (fun _ _ _ h => h) (Or.inl ⟨by rfl, ?_⟩) (by assumption) ?_
      rotate_left
      · first | (intro w' hSw; (try dsimp only at hSw); go_simp; done) | (intro w' hSw; (try dsimp only at hSw); go_simp; with_reducible rfl)
      try simp only [Act.put, List.getElem_toArray, List.getElem_cons_zero, List.getElem_cons_succ, List.setIfInBounds_toArray, List.set_cons_zero, List.set_cons_succ]
      refine wpAnyH_take (i := 10) (oi := _) (v := ?_) rfl (by kernel_rfl) (by kernel_rfl) (by kernel_rfl) (fun _ _ _ h => h) (Or.inl ⟨by rfl, ?_⟩) (by assumption) ?_
      rotate_left
      · first | (intro w' hSw; (try dsimp only at hSw); go_simp; done) | (intro w' hSw; (try dsimp only at hSw); go_simp; with_reducible rfl)
      try simp only [Act.put, List.getElem_toArray, List.getElem_cons_zero, List.getElem_cons_succ, List.setIfInBounds_toArray, List.set_cons_zero, List.set_cons_succ]
      refine wpAnyH_take (i := 11) (oi := _) (v := ?_) rfl (by kernel_rfl) (by kernel_rfl) (by kernel_rfl) (fun _ _ _ h => h) (Or.inl ⟨by rfl, ?_⟩) (by assumption) ?_
      rotate_left
      · first | (intro w' hSw; (try dsimp only at hSw); go_simp; done) | (intro w' hSw; (try dsimp only at hSw); go_simp; with_reducible rfl)
      try simp only [Act.put, List.getElem_toArray, List.getElem_cons_zero, List.getElem_cons_succ, List.setIfInBounds_toArray, List.set_cons_zero, List.set_cons_succ]
      refine wpAnyH_take (i := 12) (oi := _) (v := ?_) rfl (by kernel_rfl) (by kernel_rfl) (by kernel_rfl) (fun _ _ _ h => h) (Or.inl ⟨by rfl, ?_⟩) (by assumption) ?_
      rotate_left
      · first | (intro w' hSw; (try dsimp only at hSw); go_simp; done) | (intro w' hSw; (try dsimp only at hSw); go_simp; with_reducible rfl)
      try simp only [Act.put, List.getElem_toArray, List.getElem_cons_zero, List.getElem_cons_succ, List.setIfInBounds_toArray, List.set_cons_zero, List.set_cons_succ]
      refine wpAnyH_take (i := 13) (oi := _) (v := ?_) rfl (by kernel_rfl) (by kernel_rfl) (by kernel_rfl) (fun _ _ _ h => h) (Or.inl ⟨by rfl, ?_⟩) (by assumption) ?_
      rotate_left
      · first | (intro w' hSw; (try dsimp only at hSw); go_simp; done) | (intro w' hSw; (try dsimp only at hSw); go_simp; with_reducible rfl)
      try simp only [Act.put, List.getElem_toArray, List.getElem_cons_zero, List.getElem_cons_succ, List.setIfInBounds_toArray, List.set_cons_zero, List.set_cons_succ]
      refine wpAnyH_done (by kernel_rfl) ?_ _
      clear f3 g0 g1 g2
      go_wp2
      refine bodyPost_ret (v := .tuple #[.int .i64 y, .int .i64 (e1 : Int)]) (by simp [results, Try.results73, go_sem]) rfl ?_
      rw [HVAL.out, ← HEE.out]
      refine ⟨?_, sz_keep HB.out (map_drew HBR.out)⟩
      simp only [Tm.row, List.length_cons]
      rw [show k + ((rowsOf ts).length + 1) = k + 1 + (rowsOf ts).length by omega]

mutual
theorem l5_any {s : MSig} {m : MModel} {vars t vals : List Int} (ht : t.length ≤ 30) (hf : ModFacts s m) (hv : ValsOk m vars vals) (h4 : vars.length ≤ 4) : ∀ tm : Tm, wfT s vars tm → L5At s m t vals tm
  | .leaf k of, hw => by
    unfold wfT at hw
    exact l5_leaf s m t vals ht k of (by rw [hv.1]; exact hw.1) (by rw [hv.1]; exact h4)
  | .node op lv ts, hw => l5_node s m vars t vals ht hf hv op lv ts hw (by
    have hw2 := hw
    unfold wfT at hw2
    exact l5_all ht hf hv h4 ts _ hw2.2.2)
theorem l5_all {s : MSig} {m : MModel} {vars t vals : List Int} (ht : t.length ≤ 30) (hf : ModFacts s m) (hv : ValsOk m vars vals) (h4 : vars.length ≤ 4) : ∀ (ts : List Tm) (ss : List Int), wfTs s vars ss ts → ∀ (k : Nat) (h : k < ts.length), L5At s m t vals ts[k]
  | [], ss, hw, k, h => by simp at h
  | t :: ts, ss, hw, 0, h => by
    unfold wfTs at hw
    obtain ⟨x, ss', rfl, rfl, h1, h2⟩ := hw
    exact l5_any ht hf hv h4 t h1
  | t :: ts, ss, hw, k + 1, h => by
    unfold wfTs at hw
    obtain ⟨x, ss', rfl, rfl, h1, h2⟩ := hw
    exact l5_all ht hf hv h4 ts _ h2 k (by simpa using h)
end
end

section
open Go.RowKit
set_option linter.unusedVariables false
set_option linter.unusedSimpArgs false

theorem value_none {s : MSig} {m : MModel} {vars t vals : List Int} (h : termM s vars t = none) : valueM s m vars t vals = -1 := by unfold valueM; rw [h]
theorem value_bad {s : MSig} {m : MModel} {vars t vals : List Int} (h : valsB s m vars vals = false) : valueM s m vars t vals = -1 := by unfold valueM; rw [h]; cases termM s vars t <;> rfl
theorem value_some {s : MSig} {m : MModel} {vars t vals : List Int} {tm : Tm} (h : termM s vars t = some tm) (h2 : valsB s m vars vals = true) : valueM s m vars t vals = valT m vals tm := by unfold valueM; rw [h, h2]; rfl

set_option maxHeartbeats 1600000 in
set_option maxRecDepth 100000 in
theorem valueOf_any (s : MSig) (m : MModel) (vars t vals : List Int) (w : World) (v v' v2 v3 v4 : Value) (hsm : Small t) (h1 : RSig w v s) (h2 : RModel w v' m) (h3 : RInts w v2 vars) (h4 : RInts w v3 t) (h5 : RInts w v4 vals) :
    Calls Try.prog 20 #[v, v', v2, v3, v4] w fun e w' => e = .returned (.int .i64 (valueM s m vars t vals)) ∧ Below w.heap.size w w' := by
  obtain ⟨Asa, csa, rfl⟩ := h1.form
  obtain ⟨Ama, cma, Amb, cmb, rfl⟩ := h2.form
  have hb : Below w.heap.size w ((w.alloc (.cells #[.int .i64 s.sorts, .slice Asa s.ops.length csa] 25)).alloc (.cells #[.slice Ama m.sizes.length cma, .slice Amb m.tables.length cmb] 30)) := (below_alloc _ _).alloc (by simp) _
  have HB := Lib.hid hb
  have hsz : ((w.alloc (.cells #[.int .i64 s.sorts, .slice Asa s.ops.length csa] 25)).alloc (.cells #[.slice Ama m.sizes.length cma, .slice Amb m.tables.length cmb] 30)).heap.size = w.heap.size + 2 := by simp
  have Hs := Lib.hid (h1.keep hb)
  have s0 := cell_keep (below_alloc (w.alloc (.cells #[.int .i64 s.sorts, .slice Asa s.ops.length csa] 25)) (.cells #[.slice Ama m.sizes.length cma, .slice Amb m.tables.length cmb] 30)) (bx_at (w) #[.int .i64 s.sorts, .slice Asa s.ops.length csa] 25 (k := 0) rfl)
  have s1 := cell_keep (below_alloc (w.alloc (.cells #[.int .i64 s.sorts, .slice Asa s.ops.length csa] 25)) (.cells #[.slice Ama m.sizes.length cma, .slice Amb m.tables.length cmb] 30)) (bx_at (w) #[.int .i64 s.sorts, .slice Asa s.ops.length csa] 25 (k := 1) rfl)
  have Hm := Lib.hid (h2.keep hb)
  have m0 := bx_at (w.alloc (.cells #[.int .i64 s.sorts, .slice Asa s.ops.length csa] 25)) #[.slice Ama m.sizes.length cma, .slice Amb m.tables.length cmb] 30 (k := 0) rfl
  have m1 := bx_at (w.alloc (.cells #[.int .i64 s.sorts, .slice Asa s.ops.length csa] 25)) #[.slice Ama m.sizes.length cma, .slice Amb m.tables.length cmb] 30 (k := 1) rfl
  simp only [World.size_alloc] at m0 m1
  generalize hW : (w.alloc (.cells #[.int .i64 s.sorts, .slice Asa s.ops.length csa] 25)).alloc (.cells #[.slice Ama m.sizes.length cma, .slice Amb m.tables.length cmb] 30) = W at HB hsz Hs s0 s1 Hm m0 m1
  clear hb h1 h2
  have H3 := Lib.hid (h3.keep HB.out)
  have H4 := Lib.hid (h4.keep HB.out)
  have H5 := Lib.hid (h5.keep HB.out)
  have HSM := Lib.hid hsm
  obtain ⟨A3, d3, rfl, -⟩ := h3.form
  obtain ⟨A4, d4, rfl, -⟩ := h4.form
  obtain ⟨A5, d5, rfl, -⟩ := h5.form
  clear h3 h4 h5 hsm
  go_enter Try.func20, Try.ntmps20
  go_wp2_with fail
  clear hW
  refine (termOf_any s vars t _ _ _ _ HSM.out Hs.out H3.out H4.out).mono ?_
  rintro e w1 ⟨hm, hb⟩
  replace HB := Lib.hid (sz_keep HB.out hb)
  replace s0 := cell_keep hb s0
  replace s1 := cell_keep hb s1
  replace m0 := cell_keep hb m0
  replace m1 := cell_keep hb m1
  replace Hs := Lib.hid (Hs.out.keep hb)
  replace Hm := Lib.hid (Hm.out.keep hb)
  replace H3 := Lib.hid (H3.out.keep hb)
  replace H5 := Lib.hid (H5.out.keep hb)
  clear hb
  cases ht : termM s vars t with
  | none =>
    rw [ht] at hm
    simp only at hm
    subst hm
    have HR := Lib.hid (value_none (m := m) (vals := vals) ht)
    clear ht
    go_wp2
    go_ret
    exact ⟨ret_int HR.out.symm, HB.out⟩
  | some tm =>
    rw [ht] at hm
    simp only at hm
    obtain ⟨u, rfl, hu⟩ := hm
    have HU := Lib.hid hu
    have HTT := Lib.hid ht
    obtain ⟨T, y, fid, rfl, -⟩ := hu.sorts
    clear ht hu
    cases hv : valsB s m vars vals with
    | false =>
      have HV := Lib.hid hv
      have HR := Lib.hid (value_bad (t := t) hv)
      clear hv
      go_wp2_with fail
      refine (valuesOk_any s m vars vals _ _ _ _ _ Hs.out Hm.out H3.out H5.out).mono ?_
      rw [HV.out]
      rintro e w2 ⟨rfl, hb⟩
      replace HB := Lib.hid (sz_keep HB.out hb)
      replace s0 := cell_keep hb s0
      replace s1 := cell_keep hb s1
      replace m0 := cell_keep hb m0
      replace m1 := cell_keep hb m1
      replace Hs := Lib.hid (Hs.out.keep hb)
      replace Hm := Lib.hid (Hm.out.keep hb)
      replace H3 := Lib.hid (H3.out.keep hb)
      replace H5 := Lib.hid (H5.out.keep hb)
      clear hb
      go_wp2
      go_ret
      exact ⟨ret_int HR.out.symm, HB.out⟩
    | true =>
      have HV := Lib.hid hv
      have HR := Lib.hid (value_some HTT.out hv)
      clear hv
      go_wp2_with fail
      refine (valuesOk_any s m vars vals _ _ _ _ _ Hs.out Hm.out H3.out H5.out).mono ?_
      rw [HV.out]
      rintro e w2 ⟨rfl, hb⟩
      replace HU := Lib.hid (HU.out.below hb)
      replace HB := Lib.hid (sz_keep HB.out hb)
      replace s0 := cell_keep hb s0
      replace s1 := cell_keep hb s1
      replace m0 := cell_keep hb m0
      replace m1 := cell_keep hb m1
      replace Hs := Lib.hid (Hs.out.keep hb)
      replace Hm := Lib.hid (Hm.out.keep hb)
      replace H3 := Lib.hid (H3.out.keep hb)
      replace H5 := Lib.hid (H5.out.keep hb)
      clear hb
      go_wp2_with fail
      refine (val_any (model_facts (vals_facts HV.out).2.1) (vals_facts HV.out).2.2 tm (termM_to HTT.out).2.2.1 _ _ _ _ _ Hm.out HU.out H5.out).mono ?_
      rintro e w3 ⟨rfl, hb⟩
      replace HB := Lib.hid (sz_keep HB.out hb)
      replace s0 := cell_keep hb s0
      replace s1 := cell_keep hb s1
      replace m0 := cell_keep hb m0
      replace m1 := cell_keep hb m1
      replace Hs := Lib.hid (Hs.out.keep hb)
      replace Hm := Lib.hid (Hm.out.keep hb)
      replace H3 := Lib.hid (H3.out.keep hb)
      replace H5 := Lib.hid (H5.out.keep hb)
      clear hb
      go_wp2
      go_ret
      exact ⟨ret_int HR.out.symm, HB.out⟩

set_option maxHeartbeats 1600000 in
set_option maxRecDepth 100000 in
theorem specValueOf_any (s : MSig) (m : MModel) (vars t vals : List Int) (w : World) (v v' v2 v3 v4 : Value) (h1 : RSig w v s) (h2 : RModel w v' m) (h3 : RInts w v2 vars) (h4 : RInts w v3 t) (h5 : RInts w v4 vals) :
    Calls Try.prog 21 #[v, v', v2, v3, v4] w fun e w' => e = .returned (.int .i64 (valueM s m vars t vals)) ∧ Below w.heap.size w w' := by
  obtain ⟨Asa, csa, rfl⟩ := h1.form
  obtain ⟨Ama, cma, Amb, cmb, rfl⟩ := h2.form
  have hb : Below w.heap.size w ((w.alloc (.cells #[.int .i64 s.sorts, .slice Asa s.ops.length csa] 25)).alloc (.cells #[.slice Ama m.sizes.length cma, .slice Amb m.tables.length cmb] 30)) := (below_alloc _ _).alloc (by simp) _
  have HB := Lib.hid hb
  have hsz : ((w.alloc (.cells #[.int .i64 s.sorts, .slice Asa s.ops.length csa] 25)).alloc (.cells #[.slice Ama m.sizes.length cma, .slice Amb m.tables.length cmb] 30)).heap.size = w.heap.size + 2 := by simp
  have Hs := Lib.hid (h1.keep hb)
  have s0 := cell_keep (below_alloc (w.alloc (.cells #[.int .i64 s.sorts, .slice Asa s.ops.length csa] 25)) (.cells #[.slice Ama m.sizes.length cma, .slice Amb m.tables.length cmb] 30)) (bx_at (w) #[.int .i64 s.sorts, .slice Asa s.ops.length csa] 25 (k := 0) rfl)
  have s1 := cell_keep (below_alloc (w.alloc (.cells #[.int .i64 s.sorts, .slice Asa s.ops.length csa] 25)) (.cells #[.slice Ama m.sizes.length cma, .slice Amb m.tables.length cmb] 30)) (bx_at (w) #[.int .i64 s.sorts, .slice Asa s.ops.length csa] 25 (k := 1) rfl)
  have Hm := Lib.hid (h2.keep hb)
  have m0 := bx_at (w.alloc (.cells #[.int .i64 s.sorts, .slice Asa s.ops.length csa] 25)) #[.slice Ama m.sizes.length cma, .slice Amb m.tables.length cmb] 30 (k := 0) rfl
  have m1 := bx_at (w.alloc (.cells #[.int .i64 s.sorts, .slice Asa s.ops.length csa] 25)) #[.slice Ama m.sizes.length cma, .slice Amb m.tables.length cmb] 30 (k := 1) rfl
  simp only [World.size_alloc] at m0 m1
  generalize hW : (w.alloc (.cells #[.int .i64 s.sorts, .slice Asa s.ops.length csa] 25)).alloc (.cells #[.slice Ama m.sizes.length cma, .slice Amb m.tables.length cmb] 30) = W at HB hsz Hs s0 s1 Hm m0 m1
  clear hb h1 h2
  have H3 := Lib.hid (h3.keep HB.out)
  have H4 := Lib.hid (h4.keep HB.out)
  have H5 := Lib.hid (h5.keep HB.out)
  obtain ⟨A3, d3, rfl, -⟩ := h3.form
  obtain ⟨A4, d4, rfl, -⟩ := h4.form
  obtain ⟨A5, d5, rfl, -⟩ := h5.form
  clear h3 h4 h5
  cases hv : valsB s m vars vals with
  | false =>
    have HV := Lib.hid hv
    have HR := Lib.hid (value_bad (t := t) hv)
    clear hv
    go_enter Try.func21, Try.ntmps21
    go_wp2_with fail
    clear hW
    refine (specValuesOk_any s m vars vals _ _ _ _ _ Hs.out Hm.out H3.out H5.out).mono ?_
    rw [HV.out]
    rintro e w1 ⟨rfl, hb⟩
    replace HB := Lib.hid (sz_keep HB.out hb)
    replace s0 := cell_keep hb s0
    replace s1 := cell_keep hb s1
    replace m0 := cell_keep hb m0
    replace m1 := cell_keep hb m1
    replace Hs := Lib.hid (Hs.out.keep hb)
    replace Hm := Lib.hid (Hm.out.keep hb)
    replace H3 := Lib.hid (H3.out.keep hb)
    replace H4 := Lib.hid (H4.out.keep hb)
    replace H5 := Lib.hid (H5.out.keep hb)
    clear hb
    go_wp2
    go_ret
    exact ⟨ret_int HR.out.symm, HB.out⟩
  | true =>
    have HV := Lib.hid hv
    clear hv
    go_enter Try.func21, Try.ntmps21
    go_wp2_with fail
    clear hW
    refine (specValuesOk_any s m vars vals _ _ _ _ _ Hs.out Hm.out H3.out H5.out).mono ?_
    rw [HV.out]
    rintro e w1 ⟨rfl, hb⟩
    replace HB := Lib.hid (sz_keep HB.out hb)
    replace s0 := cell_keep hb s0
    replace s1 := cell_keep hb s1
    replace m0 := cell_keep hb m0
    replace m1 := cell_keep hb m1
    replace Hs := Lib.hid (Hs.out.keep hb)
    replace Hm := Lib.hid (Hm.out.keep hb)
    replace H3 := Lib.hid (H3.out.keep hb)
    replace H4 := Lib.hid (H4.out.keep hb)
    replace H5 := Lib.hid (H5.out.keep hb)
    clear hb
    go_wp2_with fail
    refine (specTermSort_any s vars t _ _ _ _ Hs.out H3.out H4.out).mono ?_
    cases ht : termM s vars t with
    | none =>
      have hsn : sortM s vars t = -1 := by unfold sortM; rw [ht]
      rw [hsn]
      have HR := Lib.hid (value_none (m := m) (vals := vals) ht)
      rintro e w2 ⟨rfl, hb⟩
      replace HB := Lib.hid (sz_keep HB.out hb)
      replace s0 := cell_keep hb s0
      replace s1 := cell_keep hb s1
      replace m0 := cell_keep hb m0
      replace m1 := cell_keep hb m1
      replace Hs := Lib.hid (Hs.out.keep hb)
      replace Hm := Lib.hid (Hm.out.keep hb)
      replace H3 := Lib.hid (H3.out.keep hb)
      replace H4 := Lib.hid (H4.out.keep hb)
      replace H5 := Lib.hid (H5.out.keep hb)
      clear hb
      clear ht hsn
      go_wp2
      go_ret
      exact ⟨ret_int HR.out.symm, HB.out⟩
    | some tm =>
      have hsn : sortM s vars t = tm.sort := sortM_some ht
      rw [hsn]
      have HTT := Lib.hid ht
      have HR := Lib.hid (value_some ht HV.out)
      have hpos := (sort_ok (vals_facts HV.out).1 (termM_to ht).2.2.1).1
      rintro e w2 ⟨rfl, hb⟩
      replace HB := Lib.hid (sz_keep HB.out hb)
      replace s0 := cell_keep hb s0
      replace s1 := cell_keep hb s1
      replace m0 := cell_keep hb m0
      replace m1 := cell_keep hb m1
      replace Hs := Lib.hid (Hs.out.keep hb)
      replace Hm := Lib.hid (Hm.out.keep hb)
      replace H3 := Lib.hid (H3.out.keep hb)
      replace H4 := Lib.hid (H4.out.keep hb)
      replace H5 := Lib.hid (H5.out.keep hb)
      clear hb
      generalize tm.sort = q at hpos ⊢
      have hq : ¬ q < 0 := by omega
      clear ht hsn
      go_wp2_with fail
      refine (l5_any (termM_to HTT.out).2.1 (model_facts (vals_facts HV.out).2.1) (vals_facts HV.out).2.2 (vars_valid (vals_facts HV.out).1).2.1 tm (termM_to HTT.out).2.2.1 0 [] _ _ _ _ _ (by rw [(termM_to HTT.out).2.2.2]; simp) Hs.out Hm.out H4.out H5.out).mono ?_
      rintro e w3 ⟨rfl, hb⟩
      replace HB := Lib.hid (sz_keep HB.out hb)
      replace s0 := cell_keep hb s0
      replace s1 := cell_keep hb s1
      replace m0 := cell_keep hb m0
      replace m1 := cell_keep hb m1
      replace Hs := Lib.hid (Hs.out.keep hb)
      replace Hm := Lib.hid (Hm.out.keep hb)
      replace H3 := Lib.hid (H3.out.keep hb)
      replace H4 := Lib.hid (H4.out.keep hb)
      replace H5 := Lib.hid (H5.out.keep hb)
      clear hb
      go_wp2
      go_ret
      exact ⟨ret_int HR.out.symm, HB.out⟩
end

section
open Go.RowKit
set_option linter.unusedVariables false

/-- a row of numbers at the end of an own one -/
theorem app_own_run (w : World) (ty : TypeId) (B : Nat) (v x : Value) (xs ys : List Int) (hs : OInts w B v xs) (hx : RInts w x ys) (hl : xs.length + ys.length ≤ 10000000) (hB : B ≤ w.heap.size) :
    ∃ A c w', (Builtin.append_ #[26, 26] ty #[v, x]).run Try.prog w = .ok (.slice A (xs ++ ys).length c) w' ∧ OInts w' B (.slice A (xs ++ ys).length c) (xs ++ ys) ∧ w.grownBy w' v.ownBlock := by
  obtain ⟨i0, hi0, hz0, hz1, hz2⟩ := info_parts Try.tinfo_int
  obtain ⟨A2, c2, rfl, -⟩ := hx.form
  cases A2 with
  | none =>
    have h0 : ys = [] := by
      cases ys with
      | nil => rfl
      | cons y ys =>
        obtain ⟨b, o, c', e, -⟩ := hx.at_ (k := 0) (by simp)
        cases e
    subst h0
    obtain ⟨A, c, rfl, hc, -⟩ := own_reads hs
    refine ⟨A, c, w, ?_, by simpa using hs, ⟨rfl, rfl, rfl, Nat.le_refl _, fun _ _ _ => rfl⟩⟩
    have := run_append_nothing (P := Try.prog) w 26 26 ty 3 i0 Try.underlying26 hi0 A xs.length c hc (.slice none ([] : List Int).length c2) (Src.ofNil w Try.underlying26 c2)
    simpa using this
  | some ad =>
    obtain ⟨v', w', hr, ho, hg, -⟩ := run_append_own (P := Try.prog) w B 26 ty 3 i0 (.int .i64 0) 1 8 Try.underlying26 hi0 hz0 hz1 hz2 rfl (by decide) v xs.length (xs.map (Value.int .i64)) hs ad ys.length c2 (ys.map (Value.int .i64)) (by simp) (news_any hx) (ints_one _) (by rw [maxLen_eq]; omega) (by omega) hB
    have ho' := app_ints rfl ho
    obtain ⟨A, c, rfl, -⟩ := own_reads ho'
    exact ⟨A, c, w', hr, ho', hg⟩
end

section
open Go.RowKit
set_option linter.unusedVariables false

theorem sameInts_any (v v' : Value) (xs ys : List Int) (w : World) (h : RInts w v xs) (h' : RInts w v' ys) :
    Calls Try.prog 56 #[v, v'] w fun e w' => e = .returned (.bool (sameI xs ys)) ∧ Drawn w w' := by
  have H := Lib.hid h
  have H' := Lib.hid h'
  have hn := h.len
  have hn' := h'.len
  obtain ⟨A, c, rfl, -⟩ := h.form
  obtain ⟨A', c', rfl, -⟩ := h'.form
  clear h h'
  by_cases hl : xs.length = ys.length
  · have hl' : ((xs.length : Int) != (ys.length : Int)) = false := by simp [hl]
    have HL := Lib.hid hl
    have hle : xs.length ≤ ys.length := by omega
    have hge : ys.length ≤ xs.length := by omega
    clear hl
    go_enter Try.func56, Try.ntmps56
    go_wp2
    go_loopw [5] (fun i wr => ∃ k : Nat, k ≤ xs.length ∧ i = .int .i64 k ∧ xs.take k = ys.take k ∧ Drawn w wr) (fun i _ => xs.length - (intOf i).toNat)
    case atStart => exact ⟨0, Nat.zero_le _, rfl, rfl, Drawn.refl _⟩
    case round =>
      obtain ⟨k, hk, rfl, hb0, hd⟩ := hrel
      have hb := Lib.hid hb0
      have HD := Lib.hid hd
      clear hb0 hd
      by_cases hlt : k < xs.length
      · obtain ⟨b, o, c3, e, hx⟩ := (H.out.keep HD.out.below).at_ hlt
        cases e
        obtain ⟨b', o', c4, e, hy⟩ := (H'.out.keep HD.out.below).at_ (show k < ys.length by omega)
        cases e
        have hs1 : (k : Int) < (xs.length : Int) := by omega
        have hs2 : (k : Int) < (ys.length : Int) := by omega
        have HT := Lib.hid (take_succ_eq hlt (show k < ys.length by omega) hb.out)
        have HN := Lib.hid (ne_of_at hlt (show k < ys.length by omega))
        generalize xs[k] = x at hx HT HN
        generalize ys[k]'(by omega) = y at hy HT HN
        by_cases hxy : x = y
        · subst hxy
          have e1 : (x != x) = false := by simp
          have e2 : (x == x) = true := by simp
          go_wp2_with fail
          go_quiet (fail)
          go_wp2
          go_roundw
          case rel => exact ⟨k + 1, by omega, by go_num, HT.out (by simp), HD.out.more _⟩
          case measure => simp [intOf]; omega
        · have e1 : (x != y) = true := by simpa using hxy
          have e2 : (x == y) = false := by simpa using hxy
          have HXY := Lib.hid hxy
          clear hxy
          go_wp2_with fail
          go_quiet (fail)
          go_wp2
          go_ret
          exact ⟨ret_bool (by unfold sameI; simpa using (HN.out HXY.out)), HD.out.more _⟩
      · go_wp2
        go_ret
        have h := hb.out
        rw [take_all (by omega), take_all (by omega)] at h
        exact ⟨ret_bool (by unfold sameI; simpa using h), HD.out⟩
  · have hl' : ((xs.length : Int) != (ys.length : Int)) = true := by simp; omega
    have HL := Lib.hid hl
    clear hl
    go_enter Try.func56, Try.ntmps56
    go_wp2
    go_ret
    exact ⟨ret_bool (by unfold sameI; simp; rintro rfl; exact HL.out rfl), Drawn.refl _⟩

theorem sameInts_is (v v' : Value) (xs ys : List Int) (w : World) (b : Bool) (hb : sameI xs ys = b) (h : RInts w v xs) (h' : RInts w v' ys) :
    Calls Try.prog 56 #[v, v'] w fun e w' => e = .returned (.bool b) ∧ Drawn w w' := by
  subst hb; exact sameInts_any v v' xs ys w h h'

theorem sameRows_any (v v' : Value) (xs ys : List (List Int)) (w : World) (h : RRows w v xs) (h' : RRows w v' ys) :
    Calls Try.prog 57 #[v, v'] w fun e w' => e = .returned (.bool (sameR xs ys)) ∧ Drawn w w' := by
  have H := Lib.hid h
  have H' := Lib.hid h'
  have hn := h.len
  have hn' := h'.len
  obtain ⟨A, c, rfl, -⟩ := h.form
  obtain ⟨A', c', rfl, -⟩ := h'.form
  clear h h'
  by_cases hl : xs.length = ys.length
  · have hl' : ((xs.length : Int) != (ys.length : Int)) = false := by simp [hl]
    have HL := Lib.hid hl
    have hle : xs.length ≤ ys.length := by omega
    have hge : ys.length ≤ xs.length := by omega
    clear hl
    go_enter Try.func57, Try.ntmps57
    go_wp2
    go_loopw [5] (fun i wr => ∃ k : Nat, k ≤ xs.length ∧ i = .int .i64 k ∧ xs.take k = ys.take k ∧ Drawn w wr) (fun i _ => xs.length - (intOf i).toNat)
    case atStart => exact ⟨0, Nat.zero_le _, rfl, rfl, Drawn.refl _⟩
    case round =>
      obtain ⟨k, hk, rfl, hb0, hd⟩ := hrel
      have hb := Lib.hid hb0
      have HD := Lib.hid hd
      clear hb0 hd
      by_cases hlt : k < xs.length
      · obtain ⟨b, o, c3, u, e, hx, hr⟩ := (H.out.keep HD.out.below).at_ hlt
        cases e
        obtain ⟨b', o', c4, u', e, hy, hr'⟩ := (H'.out.keep HD.out.below).at_ (show k < ys.length by omega)
        cases e
        have hs1 : (k : Int) < (xs.length : Int) := by omega
        have hs2 : (k : Int) < (ys.length : Int) := by omega
        have HT := Lib.hid (take_succ_eq hlt (show k < ys.length by omega) hb.out)
        have HN := Lib.hid (ne_of_at hlt (show k < ys.length by omega))
        generalize xs[k] = x at hr HT HN
        generalize ys[k]'(by omega) = y at hr' HT HN
        have HR := Lib.hid hr
        have HR' := Lib.hid hr'
        obtain ⟨A1, c1, rfl, -⟩ := hr.form
        obtain ⟨A2, c2, rfl, -⟩ := hr'.form
        clear hr hr'
        cases hxy : sameI x y with
        | true =>
          have HXY := Lib.hid hxy
          clear hxy
          go_wp2_with fail
          go_quiet ((go_at_call 56; exact quiet_drawn (sameInts_is _ _ _ _ _ _ HXY.out (HR.out.keep (below_drewN (Below.refl _ _) _)) (HR'.out.keep (below_drewN (Below.refl _ _) _)))))
          go_wp2
          go_roundw
          case rel => exact ⟨k + 1, by omega, by go_num, HT.out (by simpa [sameI] using HXY.out), HD.out.more _⟩
          case measure => simp [intOf]; omega
        | false =>
          have HXY := Lib.hid hxy
          clear hxy
          go_wp2_with fail
          go_quiet ((go_at_call 56; exact quiet_drawn (sameInts_is _ _ _ _ _ _ HXY.out (HR.out.keep (below_drewN (Below.refl _ _) _)) (HR'.out.keep (below_drewN (Below.refl _ _) _)))))
          go_wp2
          go_ret
          exact ⟨ret_bool (by unfold sameR; simpa using (HN.out (by simpa [sameI] using HXY.out))), HD.out.more _⟩
      · go_wp2
        go_ret
        have h := hb.out
        rw [take_all (by omega), take_all (by omega)] at h
        exact ⟨ret_bool (by unfold sameR; simpa using h), HD.out⟩
  · have hl' : ((xs.length : Int) != (ys.length : Int)) = true := by simp; omega
    have HL := Lib.hid hl
    clear hl
    go_enter Try.func57, Try.ntmps57
    go_wp2
    go_ret
    exact ⟨ret_bool (by unfold sameR; simp; rintro rfl; exact HL.out rfl), Drawn.refl _⟩


theorem sameSig_any (v v' : Value) (a b : MSig) (w : World) (h : RSig w v a) (h' : RSig w v' b) :
    Calls Try.prog 15 #[v, v'] w fun e w' => e = .returned (.bool (sameS a b)) ∧ Below w.heap.size w w' := by
  obtain ⟨u, rfl, hr⟩ := h
  obtain ⟨u', rfl, hr'⟩ := h'
  have hb2 : Below w.heap.size w ((w.alloc (.cells #[.int .i64 a.sorts, u] 25)).alloc (.cells #[.int .i64 b.sorts, u'] 25)) := (below_alloc _ _).alloc (by simp) _
  have HB := Lib.hid hb2
  have H := Lib.hid (hr.keep hb2)
  have H' := Lib.hid (hr'.keep hb2)
  clear hb2
  obtain ⟨A, c, rfl, -⟩ := hr.form
  obtain ⟨A', c', rfl, -⟩ := hr'.form
  clear hr hr'
  obtain ⟨s1, xs⟩ := a
  obtain ⟨s2, ys⟩ := b
  by_cases hs : s1 = s2
  · subst hs
    have e1 : (s1 == s1) = true := by simp
    go_enter Try.func15, Try.ntmps15
    go_wp2_with (go_at_call 57; refine (sameRows_any _ _ _ _ _ H.out H'.out).mono ?_; rintro e w1 ⟨rfl, hd⟩)
    go_ret
    exact ⟨ret_bool (by unfold sameS; simp), HB.out.trans (hd.below.mono (by simp; omega))⟩
  · have e1 : (s1 == s2) = false := by simpa using hs
    have HS := Lib.hid hs
    clear hs
    go_enter Try.func15, Try.ntmps15
    go_wp2
    go_ret
    exact ⟨ret_bool (by unfold sameS; simp [HS.out]), HB.out⟩
end
end Go.Proofs.Ytbopcghbmbchkab
