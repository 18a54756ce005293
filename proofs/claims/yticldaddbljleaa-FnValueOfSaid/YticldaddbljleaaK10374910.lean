/- What a model of a signature is (plain), the values of terms in it, where an equation fails, models along maps, pairs. No walk. · isValue, sizesOf, rowsOf of package impl. · tableOk of package impl. · ModelOk of package spec. · The draw of a model of a signature (l20ModelOf). -/
import Derived.Test.YticldaddbljleaaK92854d09
import Derived.Deep.DeepCutAuto
namespace Go.Proofs.Yticldaddbljleaa
section
open Go.RowKit
theorem List.mem_of_mem_dropLast' {x : Int} {l : List Int} (h : x ∈ l.dropLast) : x ∈ l := List.dropLast_subset l h
set_option linter.unusedVariables false
set_option linter.unusedSimpArgs false

theorem sizes_led {sizes row : List Int} (hz : Sizes sizes) (hin : ∀ x ∈ row, 0 ≤ x ∧ x < 100 ∧ x < (sizes.length : Int)) : Sizes (ledM sizes row) := by
  intro z hzm
  unfold ledM at hzm
  obtain ⟨x, hx, rfl⟩ := List.mem_map.1 hzm
  obtain ⟨h0, h1, h2⟩ := hin x hx
  rw [if_pos h1, getD_at _ (show x.toNat < sizes.length by omega)]
  exact hz _ (List.getElem_mem _)
def tableB (sizes row table : List Int) : Bool := decide ((table.length : Int) = waysM (ledM sizes row.dropLast)) && belowB table (sizes.getD (row.getLastD (-1)).toNat 0)
def tabB (s : MSig) (m : MModel) (k : Nat) : Bool := tableB m.sizes (s.ops.getD k []) (m.tables.getD k [])
def allTab (s : MSig) (m : MModel) (n : Nat) : Bool := (List.range n).all (tabB s m)
theorem allTab_zero (s : MSig) (m : MModel) : allTab s m 0 = true := rfl
theorem allTab_succ (s : MSig) (m : MModel) (n : Nat) : allTab s m (n + 1) = (allTab s m n && tabB s m n) := by
  unfold allTab; rw [List.range_succ, List.all_append]; simp
theorem allTab_bad {s : MSig} {m : MModel} {k n : Nat} (hk : k < n) (h : tabB s m k = false) : allTab s m n = false := by
  unfold allTab; rw [List.all_eq_false]; exact ⟨k, List.mem_range.2 hk, by simp [h]⟩
def sizesB (zs : List Int) : Bool := zs.all fun z => inB z 1 3
theorem sizesB_iff {zs : List Int} : sizesB zs = true ↔ Sizes zs := by unfold sizesB Sizes inB; simp
theorem sizesB_bad {zs : List Int} {k : Nat} (hk : k < zs.length) (h : inB zs[k] 1 3 = false) : sizesB zs = false := all_bad hk h
def modelB (s : MSig) (m : MModel) : Bool := (((validB s && decide ((m.sizes.length : Int) = s.sorts)) && decide (m.tables.length = s.ops.length)) && sizesB m.sizes) && allTab s m m.tables.length
theorem model_no1 {s : MSig} {m : MModel} (h : validB s = false) : modelB s m = false := by unfold modelB; simp [h]
theorem model_no2 {s : MSig} {m : MModel} (h : ¬ (m.sizes.length : Int) = s.sorts) : modelB s m = false := by unfold modelB; simp [h]
theorem model_no3 {s : MSig} {m : MModel} (h : ¬ m.tables.length = s.ops.length) : modelB s m = false := by unfold modelB; simp [h]
theorem model_no4 {s : MSig} {m : MModel} (h : sizesB m.sizes = false) : modelB s m = false := by unfold modelB; simp [h]
theorem model_no5 {s : MSig} {m : MModel} {k : Nat} (hk : k < m.tables.length) (h : tabB s m k = false) : modelB s m = false := by unfold modelB; simp [allTab_bad hk h]
theorem model_yes {s : MSig} {m : MModel} (h1 : validB s = true) (h2 : (m.sizes.length : Int) = s.sorts) (h3 : m.tables.length = s.ops.length) (h4 : sizesB m.sizes = true) (h5 : allTab s m m.tables.length = true) : modelB s m = true := by
  unfold modelB; simp only [h1, h2, h3, h4, decide_true, Bool.true_and]; rw [← h3]; exact h5
structure ModFacts (s : MSig) (m : MModel) : Prop where
  va : validB s = true
  sl : (m.sizes.length : Int) = s.sorts
  tl : m.tables.length = s.ops.length
  sz : Sizes m.sizes
  tb : ∀ k, k < s.ops.length → tableB m.sizes (opRow s k) (m.tables.getD k []) = true
theorem model_facts {s : MSig} {m : MModel} (h : modelB s m = true) : ModFacts s m := by
  unfold modelB at h
  simp only [Bool.and_eq_true, decide_eq_true_eq] at h
  obtain ⟨⟨⟨⟨h1, h2⟩, h3⟩, h4⟩, h5⟩ := h
  refine ⟨h1, h2, h3, sizesB_iff.1 h4, fun k hk => ?_⟩
  unfold allTab at h5
  rw [List.all_eq_true] at h5
  exact h5 k (List.mem_range.2 (by omega))
theorem facts_model {s : MSig} {m : MModel} (h : ModFacts s m) : modelB s m = true :=
  model_yes h.va h.sl h.tl (sizesB_iff.2 h.sz) (by
    unfold allTab
    rw [List.all_eq_true]
    exact fun k hk => h.tb k (by have := List.mem_range.1 hk; have := h.tl; omega))
/-- the sizes of what an operation takes -/
def takenM (s : MSig) (m : MModel) (k : Nat) : List Int := ledM m.sizes (opRow s k).dropLast
section
variable {s : MSig} {m : MModel}
theorem ModFacts.sorts (h : ModFacts s m) : m.sizes.length ≤ 3 ∧ 1 ≤ m.sizes.length := by have := valid_sorts h.va; have := h.sl; omega
theorem ModFacts.size (h : ModFacts s m) {x : Int} (h0 : 0 ≤ x) (h1 : x < s.sorts) : ∃ hx : x.toNat < m.sizes.length, m.sizes.getD x.toNat 0 = m.sizes[x.toNat] ∧ 1 ≤ m.sizes[x.toNat] ∧ m.sizes[x.toNat] ≤ 3 := by
  have := h.sl
  have hx : x.toNat < m.sizes.length := by omega
  exact ⟨hx, getD_at _ hx, h.sz _ (List.getElem_mem _)⟩
theorem ModFacts.led (h : ModFacts s m) {row : List Int} (hr : ∀ x ∈ row, 0 ≤ x ∧ x < s.sorts) : Sizes (ledM m.sizes row) := by
  have h1 := valid_sorts h.va
  have h2 := h.sl
  exact sizes_led h.sz fun x hx => by have := hr x hx; omega
theorem ModFacts.into (h : ModFacts s m) {row : List Int} (hr : ∀ x ∈ row, 0 ≤ x ∧ x < s.sorts) : InTo m.sizes row := fun x hx _ => by have := hr x hx; have := h.sl; omega
theorem ModFacts.taken (h : ModFacts s m) {k : Nat} (hk : k < s.ops.length) : Sizes (takenM s m k) ∧ (takenM s m k).length ≤ 2 := by
  obtain ⟨h1, h2, h3⟩ := opRow_valid h.va hk
  refine ⟨h.led fun x hx => h3 x (List.mem_of_mem_dropLast' hx), ?_⟩
  unfold takenM; rw [ledM_len, List.length_dropLast]; omega
theorem ModFacts.table (h : ModFacts s m) {k : Nat} (hk : k < s.ops.length) : ∃ hk' : k < m.tables.length, m.tables.getD k [] = m.tables[k] ∧ (m.tables[k].length : Int) = waysM (takenM s m k) ∧ ∀ x ∈ m.tables[k], 0 ≤ x ∧ x < m.sizes.getD ((opRow s k).getLastD (-1)).toNat 0 := by
  have hk' : k < m.tables.length := by rw [h.tl]; exact hk
  have := h.tb k hk
  rw [getD_at _ hk'] at this
  unfold tableB belowB at this
  simp only [Bool.and_eq_true, decide_eq_true_eq, List.all_eq_true] at this
  exact ⟨hk', getD_at _ hk', this.1, this.2⟩
end

/-! values of terms -/
def sizesT (m : MModel) (ts : List Tm) : List Int := ts.map fun t => m.sizes.getD t.sort.toNat 0
mutual
def valT (m : MModel) (vals : List Int) : Tm → Int
  | .leaf k _ => vals.getD k 0
  | .node op _ ts => (m.tables.getD op []).getD (placeM 0 (sizesT m ts) (valTs m vals ts)).toNat 0
def valTs (m : MModel) (vals : List Int) : List Tm → List Int
  | [] => []
  | t :: ts => valT m vals t :: valTs m vals ts
end
theorem valTs_map (m : MModel) (vals : List Int) : ∀ ts, valTs m vals ts = ts.map (valT m vals)
  | [] => by simp [valTs]
  | t :: ts => by simp [valTs, valTs_map m vals ts]
theorem valTs_len (m : MModel) (vals : List Int) (ts : List Tm) : (valTs m vals ts).length = ts.length := by rw [valTs_map]; simp
theorem sizesT_len (m : MModel) (ts : List Tm) : (sizesT m ts).length = ts.length := by simp [sizesT]
theorem valT_node (m : MModel) (vals : List Int) (op : Nat) (lv : Int) (ts : List Tm) : valT m vals (.node op lv ts) = (m.tables.getD op []).getD (placeM 0 (sizesT m ts) (valTs m vals ts)).toNat 0 := by simp [valT]
theorem wfTs_sorts {s : MSig} {vars : List Int} : ∀ {ss : List Int} {ts : List Tm}, wfTs s vars ss ts → ss = ts.map Tm.sort
  | ss, [], h => by unfold wfTs at h; simp [h]
  | ss, t :: ts, h => by
    unfold wfTs at h
    obtain ⟨x, ss', rfl, rfl, -, h2⟩ := h
    simp [wfTs_sorts h2]
/-- the sizes of the terms that an operation takes are those of its row -/
theorem sizesT_taken {s : MSig} {m : MModel} {vars : List Int} (h : ModFacts s m) {op : Nat} {lv : Int} {ts : List Tm} (hw : wfT s vars (.node op lv ts)) : sizesT m ts = takenM s m op := by
  unfold wfT at hw
  obtain ⟨hk, -, hts⟩ := hw
  have hs := wfTs_sorts hts
  unfold takenM ledM
  rw [hs, List.map_map]
  unfold sizesT
  refine List.map_congr_left fun t ht => ?_
  have hm : t.sort ∈ (opRow s op).dropLast := by rw [hs]; exact List.mem_map_of_mem ht
  have := (opRow_valid h.va hk).2.2 _ (List.mem_of_mem_dropLast' hm)
  have h3 := valid_sorts h.va
  show m.sizes.getD t.sort.toNat 0 = if t.sort < 100 then m.sizes.getD t.sort.toNat 0 else t.sort
  rw [if_pos (by omega)]
/-- values of letters -/
def ValsOk (m : MModel) (vars vals : List Int) : Prop := vals.length = vars.length ∧ ∀ (k : Nat) (h : k < vars.length) (h' : k < vals.length), 0 ≤ vals[k] ∧ vals[k] < m.sizes.getD (vars[k]).toNat 0
mutual
theorem valT_in {s : MSig} {m : MModel} {vars vals : List Int} (h : ModFacts s m) (hv : ValsOk m vars vals) : ∀ tm : Tm, wfT s vars tm → 0 ≤ valT m vals tm ∧ valT m vals tm < m.sizes.getD tm.sort.toNat 0
  | .leaf k of, hw => by
    unfold wfT at hw
    obtain ⟨hk, rfl⟩ := hw
    have hk' : k < vals.length := by rw [hv.1]; exact hk
    simp only [valT, Tm.sort]
    rw [getD_at _ hk', getD_at _ hk]
    exact hv.2 k hk hk'
  | .node op lv ts, hw => by
    have hw0 := hw
    unfold wfT at hw
    obtain ⟨hk, rfl, hts⟩ := hw
    have hin := valTs_in h hv ts _ hts
    rw [valT_node]
    obtain ⟨hk', e, hl, hx⟩ := h.table hk
    obtain ⟨p0, p1⟩ := place_in (zs := sizesT m ts) (by rw [sizesT_taken h hw0]; exact (h.taken hk).1) hin
    rw [sizesT_taken h hw0, ← hl] at p1
    rw [sizesT_taken h hw0] at p0
    rw [sizesT_taken h hw0]
    rw [e, getD_at _ (show (placeM 0 (takenM s m op) (valTs m vals ts)).toNat < m.tables[op].length by omega)]
    exact hx _ (List.getElem_mem _)
theorem valTs_in {s : MSig} {m : MModel} {vars vals : List Int} (h : ModFacts s m) (hv : ValsOk m vars vals) : ∀ (ts : List Tm) (ss : List Int), wfTs s vars ss ts → InAll (sizesT m ts) (valTs m vals ts)
  | [], ss, hw => by unfold sizesT valTs; exact InAll.nil
  | t :: ts, ss, hw => by
    unfold wfTs at hw
    obtain ⟨x, ss', rfl, rfl, h1, h2⟩ := hw
    have := valTs_in h hv ts _ h2
    unfold valTs
    exact InAll.cons (valT_in h hv t h1) this
end
theorem place_table {s : MSig} {m : MModel} {vars vals : List Int} (h : ModFacts s m) (hv : ValsOk m vars vals) {op : Nat} {lv : Int} {ts : List Tm} (hw : wfT s vars (.node op lv ts)) :
    ∃ (n : Nat) (hk : op < m.tables.length) (hn : n < m.tables[op].length), placeM 0 (sizesT m ts) (valTs m vals ts) = (n : Int) ∧ valT m vals (.node op lv ts) = m.tables[op][n] := by
  have hw0 := hw
  unfold wfT at hw
  obtain ⟨hk, rfl, hts⟩ := hw
  have hin := valTs_in h hv ts _ hts
  obtain ⟨hk', e, hl, hx⟩ := h.table hk
  obtain ⟨p0, p1⟩ := place_in (zs := sizesT m ts) (by rw [sizesT_taken h hw0]; exact (h.taken hk).1) hin
  rw [sizesT_taken h hw0, ← hl] at p1
  rw [sizesT_taken h hw0] at p0
  rw [valT_node, e]
  rw [sizesT_taken h hw0]
  exact ⟨(placeM 0 (takenM s m op) (valTs m vals ts)).toNat, hk', by omega, by omega, getD_at _ _⟩
def valsB (s : MSig) (m : MModel) (vars vals : List Int) : Bool := ((varsB s vars && modelB s m) && decide (vals.length = vars.length)) && (List.range vals.length).all fun k => decide (0 ≤ vals.getD k 0) && decide (vals.getD k 0 < m.sizes.getD (vars.getD k 0).toNat 0)
def valOkAt (m : MModel) (vars vals : List Int) (k : Nat) : Bool := decide (0 ≤ vals.getD k 0) && decide (vals.getD k 0 < m.sizes.getD (vars.getD k 0).toNat 0)
def allVal (m : MModel) (vars vals : List Int) (n : Nat) : Bool := (List.range n).all (valOkAt m vars vals)
theorem allVal_zero (m : MModel) (vars vals : List Int) : allVal m vars vals 0 = true := rfl
theorem allVal_succ (m : MModel) (vars vals : List Int) (n : Nat) : allVal m vars vals (n + 1) = (allVal m vars vals n && valOkAt m vars vals n) := by
  unfold allVal; rw [List.range_succ, List.all_append]; simp
theorem allVal_bad {m : MModel} {vars vals : List Int} {k n : Nat} (hk : k < n) (h : valOkAt m vars vals k = false) : allVal m vars vals n = false := by
  unfold allVal; rw [List.all_eq_false]; exact ⟨k, List.mem_range.2 hk, by simp [h]⟩
theorem valsB_eq (s : MSig) (m : MModel) (vars vals : List Int) : valsB s m vars vals = (((varsB s vars && modelB s m) && decide (vals.length = vars.length)) && allVal m vars vals vals.length) := rfl
theorem vals_no1 {s : MSig} {m : MModel} {vars vals : List Int} (h : varsB s vars = false) : valsB s m vars vals = false := by rw [valsB_eq]; simp [h]
theorem vals_no2 {s : MSig} {m : MModel} {vars vals : List Int} (h : modelB s m = false) : valsB s m vars vals = false := by rw [valsB_eq]; simp [h]
theorem vals_no3 {s : MSig} {m : MModel} {vars vals : List Int} (h : ¬ vals.length = vars.length) : valsB s m vars vals = false := by rw [valsB_eq]; simp [h]
theorem vals_no4 {s : MSig} {m : MModel} {vars vals : List Int} {k : Nat} (hk : k < vals.length) (h : valOkAt m vars vals k = false) : valsB s m vars vals = false := by rw [valsB_eq]; simp [allVal_bad hk h]
theorem vals_yes {s : MSig} {m : MModel} {vars vals : List Int} (h1 : varsB s vars = true) (h2 : modelB s m = true) (h3 : vals.length = vars.length) (h4 : allVal m vars vals vals.length = true) : valsB s m vars vals = true := by
  rw [valsB_eq]; simp only [h1, h2, h3, decide_true, Bool.true_and]; rw [← h3]; exact h4
theorem vals_facts {s : MSig} {m : MModel} {vars vals : List Int} (h : valsB s m vars vals = true) : varsB s vars = true ∧ modelB s m = true ∧ ValsOk m vars vals := by
  rw [valsB_eq] at h
  simp only [Bool.and_eq_true, decide_eq_true_eq] at h
  obtain ⟨⟨⟨h1, h2⟩, h3⟩, h4⟩ := h
  refine ⟨h1, h2, h3, fun k hk hk' => ?_⟩
  unfold allVal at h4
  rw [List.all_eq_true] at h4
  have := h4 k (List.mem_range.2 hk')
  unfold valOkAt at this
  rw [getD_at _ hk', getD_at _ hk] at this
  simpa using this
def valueM (s : MSig) (m : MModel) (vars t vals : List Int) : Int :=
  match termM s vars t with
  | some tm => if valsB s m vars vals then valT m vals tm else -1
  | none => -1
/-- the numbers of the row of values are those of the letters -/
theorem dig_vals {s : MSig} {m : MModel} {vars : List Int} (h : ModFacts s m) (hv : varsB s vars = true) (n : Int) : ValsOk m vars (digM (ledM m.sizes vars) n) := by
  obtain ⟨-, -, h3⟩ := vars_valid hv
  have hz : Sizes (ledM m.sizes vars) := h.led fun x hx => by obtain ⟨k, hk, rfl⟩ := List.getElem_of_mem hx; exact h3 k hk
  obtain ⟨h1, h2⟩ := dig_in hz n
  rw [ledM_len] at h1
  refine ⟨h1, fun k hk hk' => ?_⟩
  have hl : k < (ledM m.sizes vars).length := by rw [ledM_len]; exact hk
  have := h2 k hl hk'
  have e := ledM_at (tq := m.sizes) hk
  rw [List.getElem?_eq_getElem hl] at e
  have hx := h3 k hk
  have hvs := valid_sorts h.va
  rw [if_pos (by omega)] at e
  injection e with e
  rw [e] at this
  exact this

/-! where an equation fails -/
def failAt (m : MModel) (zs : List Int) (l r : Tm) (n : Nat) : Bool := valT m (digM zs n) l != valT m (digM zs n) r
/-- from the number n on -/
def failFrom (m : MModel) (zs : List Int) (l r : Tm) : Nat → Nat → Option (List Int)
  | 0, _ => none
  | f + 1, n => if failAt m zs l r n then some (digM zs n) else failFrom m zs l r f (n + 1)
def failRow (m : MModel) (zs : List Int) (l r : Tm) : Option (List Int) := failFrom m zs l r (waysM zs).toNat 0
theorem failFrom_step {m : MModel} {zs : List Int} {l r : Tm} {f n : Nat} (h : failAt m zs l r n = false) : failFrom m zs l r (f + 1) n = failFrom m zs l r f (n + 1) := by
  simp [failFrom, h]
theorem failFrom_hit {m : MModel} {zs : List Int} {l r : Tm} {f n : Nat} (h : failAt m zs l r n = true) : failFrom m zs l r (f + 1) n = some (digM zs n) := by
  simp [failFrom, h]
def failsM (s : MSig) (m : MModel) (e : MEq) : List Int × Bool :=
  if eqOkB s e && modelB s m then
    match termM s e.vars e.left, termM s e.vars e.right with
    | some l, some r =>
      match failRow m (ledM m.sizes e.vars) l r with
      | some row => (row, true)
      | none => ([], false)
    | _, _ => ([], false)
  else ([], false)
def holdsB (s : MSig) (m : MModel) (e : MEq) : Bool := (eqOkB s e && modelB s m) && !(failsM s m e).2
def isModelB (t : MThy) (m : MModel) : Bool := (thyB t && modelB t.over m) && t.eqs.all (holdsB t.over m)

/-! along a map; pairs -/
def modBackM (a b : MSig) (f : MMap) (m : MModel) : MModel :=
  if mapOkB a b f && modelB b m then ⟨ledM m.sizes f.sorts, f.ops.map fun o => m.tables.getD o.toNat []⟩ else ⟨[], []⟩
def timesM (xs ys : List Int) : List Int := List.zipWith (· * ·) xs ys
end

section
open Go.RowKit
set_option linter.unusedVariables false
set_option linter.unusedSimpArgs false

def inSize (z v : Int) : Bool := decide (0 ≤ v) && decide (v < z)
theorem inSize_neg {z v : Int} (h : v < 0) : inSize z v = false := by unfold inSize; simp; omega
theorem inSize_pos {z v : Int} (h : 0 ≤ v) : inSize z v = decide (v < z) := by unfold inSize; simp [h]
theorem inSize_inB {z v q : Int} (hq : q = z - 1) : inB v 0 q = inSize z v := by unfold inB inSize; rw [← Bool.decide_and, ← Bool.decide_and, decide_eq_decide]; omega
theorem belowB_step {xs : List Int} {z : Int} {k : Nat} (hk : k < xs.length) : belowB (xs.take (k+1)) z = (belowB (xs.take k) z && inSize z xs[k]) := belowB_take hk
theorem belowB_no {xs : List Int} {z : Int} {k : Nat} (hk : k < xs.length) (h : inSize z xs[k] = false) : belowB xs z = false := belowB_bad hk (by unfold inSize at h; simpa using h)

set_option maxRecDepth 100000 in
theorem isValue_any (m : MModel) (sort value : Int) (w : World) (v : Value) (h : RModel w v m) (hs : 0 ≤ sort) (hl : sort < (m.sizes.length : Int)) :
    Calls Try.prog 96 #[v, .int .i64 sort, .int .i64 value] w fun e w' => e = .returned (.bool (inSize (m.sizes.getD sort.toNat 0) value)) ∧ Below w.heap.size w w' := by
  obtain ⟨n, rfl⟩ : ∃ n : Nat, sort = (n : Int) := ⟨sort.toNat, by omega⟩
  have hn : n < m.sizes.length := by omega
  have hml := h.form
  obtain ⟨Ama, cma, Amb, cmb, rfl⟩ := h.form
  have hb : Below w.heap.size w (w.alloc (.cells #[.slice Ama m.sizes.length cma, .slice Amb m.tables.length cmb] 28)) := below_alloc _ _
  have HB := Lib.hid hb
  have hsz : (w.alloc (.cells #[.slice Ama m.sizes.length cma, .slice Amb m.tables.length cmb] 28)).heap.size = w.heap.size + 1 := by simp
  have Hm := Lib.hid (h.keep hb)
  have m0 := bx_at (w) #[.slice Ama m.sizes.length cma, .slice Amb m.tables.length cmb] 28 (k := 0) rfl
  have m1 := bx_at (w) #[.slice Ama m.sizes.length cma, .slice Amb m.tables.length cmb] 28 (k := 1) rfl
  generalize hW : w.alloc (.cells #[.slice Ama m.sizes.length cma, .slice Amb m.tables.length cmb] 28) = W at HB hsz Hm m0 m1
  clear hb h
  have hml1 := Hm.out.of.1.len
  obtain ⟨b, o, c, e, hx⟩ := Hm.out.of.1.at_ hn
  cases e
  rw [Int.toNat_natCast, getD_at _ hn]
  generalize m.sizes[n] = z at hx ⊢
  by_cases hv : value < 0
  · have HE := Lib.hid (inSize_neg (z := z) hv)
    have hv' : ¬ 0 ≤ value := by omega
    go_enter Try.func96, Try.ntmps96
    go_wp2
    go_ret
    exact ⟨ret_bool HE.out.symm, HB.out⟩
  · have hv' : 0 ≤ value := by omega
    have HE := Lib.hid (inSize_pos (z := z) hv')
    go_enter Try.func96, Try.ntmps96
    go_wp2
    go_ret
    exact ⟨ret_bool HE.out.symm, HB.out⟩

set_option maxRecDepth 100000 in
theorem sizesOf_any (m : MModel) (row : List Int) (w : World) (v v' : Value) (h : RModel w v m) (h' : RInts w v' row) (hin : InTo m.sizes row) (hs : row.length ≤ 1048576) :
    Calls Try.prog 141 #[v, v'] w fun e w' => ∃ u, e = .returned u ∧ OInts w' w.heap.size u (ledM m.sizes row) ∧ Below w.heap.size w w' := by
  obtain ⟨Ama, cma, Amb, cmb, rfl⟩ := h.form
  have hb : Below w.heap.size w (w.alloc (.cells #[.slice Ama m.sizes.length cma, .slice Amb m.tables.length cmb] 28)) := below_alloc _ _
  have HB := Lib.hid hb
  have hsz : (w.alloc (.cells #[.slice Ama m.sizes.length cma, .slice Amb m.tables.length cmb] 28)).heap.size = w.heap.size + 1 := by simp
  have Hm := Lib.hid (h.keep hb)
  have m0 := bx_at (w) #[.slice Ama m.sizes.length cma, .slice Amb m.tables.length cmb] 28 (k := 0) rfl
  have m1 := bx_at (w) #[.slice Ama m.sizes.length cma, .slice Amb m.tables.length cmb] 28 (k := 1) rfl
  generalize hW : w.alloc (.cells #[.slice Ama m.sizes.length cma, .slice Amb m.tables.length cmb] 28) = W at HB hsz Hm m0 m1
  clear hb h
  have H1 := Lib.hid (h'.keep HB.out)
  have HI := Lib.hid hin
  obtain ⟨A', c', rfl, -⟩ := h'.form
  clear h' hin
  go_enter Try.func141, Try.ntmps141
  go_wp2_with fail
  clear hW
  refine (ledRow_any _ _ row m.sizes _ H1.out Hm.out.of.1 HI.out hs).mono ?_
  rintro e w1 ⟨u, rfl, ho, hb⟩
  have HO := Lib.hid ho
  have HX := Lib.hid hb
  clear ho hb m0 m1
  go_wp2
  go_ret
  exact ⟨u, rfl, HO.out.base HB.out.size, sz_keep HB.out HX.out⟩

theorem ways_wrap {zs : List Int} (hz : Sizes zs) (hl : zs.length ≤ 4) {k : Nat} (hk : k < zs.length) : IntKind.i64.wrap (waysM (zs.take k) * zs[k]) = waysM (zs.take (k + 1)) := by
  have h1 := ways_few (hz.take (k + 1)) (by simp; omega)
  have h2 := ways_pos (hz.take (k + 1))
  rw [← waysM_take hk, IntKind.wrap_i64]; omega
set_option maxRecDepth 100000 in
theorem rowsOf_any (zs : List Int) (w : World) (v : Value) (h : RInts w v zs) (hz : Sizes zs) (hl : zs.length ≤ 4) :
    Calls Try.prog 156 #[v] w fun e w' => e = .returned (.int .i64 (waysM zs)) ∧ w = w' := by
  have H := Lib.hid h
  obtain ⟨A, c, rfl, -⟩ := h.form
  have HW := Lib.hid (fun (k : Nat) (hk : k < zs.length) => ways_wrap hz hl hk)
  clear h hz
  go_enter Try.func156, Try.ntmps156
  go_wp2
  go_loopw [3, 5, 8] (fun p _ i wr => ∃ k : Nat, k ≤ zs.length ∧ i = .int .i64 k ∧ p = .int .i64 (waysM (zs.take k)) ∧ w = wr) (fun _ _ i _ => zs.length - (intOf i).toNat)
  case atStart => exact ⟨0, Nat.zero_le _, rfl, rfl, rfl⟩
  case round =>
    obtain ⟨k, hk, rfl, rfl, rfl⟩ := hrel
    by_cases hlt : k < zs.length
    · obtain ⟨b, o, c', e, hx⟩ := H.out.at_ hlt
      cases e
      have hlt' : (k : Int) < (zs.length : Int) := by omega
      have hw := HW.out k hlt
      generalize zs[k] = z at hx hw
      generalize hq : waysM (zs.take (k + 1)) = q at hw
      have HQ := Lib.hid hq
      clear hq
      go_wp2
      go_roundw
      case rel => exact ⟨k + 1, by omega, by go_num, by rw [HQ.out], by first | trivial | rfl⟩
      case measure => simp [intOf]; omega
    · have hkn : k = zs.length := by omega
      have hlt' : ¬ (k : Int) < (zs.length : Int) := by omega
      have HT := Lib.hid (show zs.take k = zs from take_all (by omega))
      go_wp2
      go_ret
      exact ⟨rfl, rfl⟩
end

section
open Go.RowKit
set_option linter.unusedVariables false
set_option linter.unusedSimpArgs false

theorem tableB_len {sizes row table : List Int} (h : ¬ (table.length : Int) = waysM (ledM sizes row.dropLast)) : tableB sizes row table = false := by unfold tableB; simp [h]
theorem tableB_val {sizes row table : List Int} (h : belowB table (sizes.getD (row.getLastD (-1)).toNat 0) = false) : tableB sizes row table = false := by unfold tableB; rw [h, Bool.and_false]
theorem tableB_yes {sizes row table : List Int} (h1 : (table.length : Int) = waysM (ledM sizes row.dropLast)) (h : belowB table (sizes.getD (row.getLastD (-1)).toNat 0) = true) : tableB sizes row table = true := by unfold tableB; rw [h]; simp [h1]

set_option maxHeartbeats 1600000 in
set_option maxRecDepth 100000 in
theorem tableOk_any (m : MModel) (row table : List Int) (w : World) (v v1 v2 : Value) (h : RModel w v m) (h1 : RInts w v1 row) (h2 : RInts w v2 table) (hr1 : 1 ≤ row.length) (hr3 : row.length ≤ 3) (hz : Sizes m.sizes) (hin : ∀ x ∈ row, 0 ≤ x ∧ x < (m.sizes.length : Int)) (hms : m.sizes.length ≤ 3) :
    Calls Try.prog 139 #[v, v1, v2] w fun e w' => e = .returned (.bool (tableB m.sizes row table)) ∧ Below w.heap.size w w' := by
  obtain ⟨Ama, cma, Amb, cmb, rfl⟩ := h.form
  have hb : Below w.heap.size w (w.alloc (.cells #[.slice Ama m.sizes.length cma, .slice Amb m.tables.length cmb] 28)) := below_alloc _ _
  have HB := Lib.hid hb
  have hsz : (w.alloc (.cells #[.slice Ama m.sizes.length cma, .slice Amb m.tables.length cmb] 28)).heap.size = w.heap.size + 1 := by simp
  have Hm := Lib.hid (h.keep hb)
  have m0 := bx_at (w) #[.slice Ama m.sizes.length cma, .slice Amb m.tables.length cmb] 28 (k := 0) rfl
  have m1 := bx_at (w) #[.slice Ama m.sizes.length cma, .slice Amb m.tables.length cmb] 28 (k := 1) rfl
  generalize hW : w.alloc (.cells #[.slice Ama m.sizes.length cma, .slice Amb m.tables.length cmb] 28) = W at HB hsz Hm m0 m1
  clear hb h
  have H1 := Lib.hid (h1.keep HB.out)
  have H2 := Lib.hid (h2.keep HB.out)
  have hl2 := h2.len
  obtain ⟨n, hn⟩ : ∃ n : Nat, row.length = n + 1 := ⟨row.length - 1, by omega⟩
  have hne : n < row.length := by omega
  obtain ⟨b1, o1, c1, e, hx⟩ := H1.out.at_ hne
  obtain ⟨A2, c2, e2, -⟩ := H2.out.form
  cases e
  cases e2
  have hcap : n ≤ c1 := by
    obtain ⟨A9, c9, e, h9, -⟩ := H1.out.form
    cases e
    omega
  have HLB := Lib.hid (last_at (row := row) (by omega))
  have HLS : Hid (row.getLastD (-1) = row[n]) := by
    have := HLB.out
    simp only [hn, Nat.add_sub_cancel] at this
    exact this
  have HIL := Lib.hid (hin _ (List.getElem_mem hne))
  have HD := Lib.hid H1.out.dropLast
  rw [hn] at HD
  simp only [Nat.add_sub_cancel] at HD
  have HSZ : Hid (Sizes (ledM m.sizes row.dropLast)) := sizes_led hz fun x hx => by have := hin x (List.mem_of_mem_dropLast' hx); omega
  have HIN : Hid (InTo m.sizes row.dropLast) := fun x hx _ => hin x (List.mem_of_mem_dropLast' hx)
  have hdl : row.dropLast.length = n := by rw [List.length_dropLast, hn]; rfl
  have HDL := Lib.hid hdl
  generalize row[n] = last at hx HLS HIL
  have hw0 : IntKind.i64.wrap (((n + 1 : Nat) : Int) - 1) = (n : Int) := by rw [IntKind.wrap_i64]; omega
  have HCX := Lib.hid (And.intro m0 (And.intro m1 hx))
  obtain ⟨q, hq⟩ : ∃ q, waysM (ledM m.sizes row.dropLast) = q := ⟨_, rfl⟩
  have HQ := Lib.hid hq
  have hn3 : n ≤ 2 := by omega
  have hnn : (n : Int) < (n : Int) + 1 := by omega
  rw [hn]
  clear h1 h2 HLB hz hin hq hdl hne
  by_cases hlen : (table.length : Int) = q
  · have HLEN := Lib.hid hlen
    have e1 : ((table.length : Int) != q) = false := by simp [hlen]
    clear hlen
    go_enter Try.func139, Try.ntmps139
    go_wp2_with fail
    clear hW
    refine wp_region_held_drew (S := (fun w' => w'.cell? ⟨w.heap.size, 0, none⟩ = some (.slice Ama m.sizes.length cma) ∧ w'.cell? ⟨w.heap.size, 1, none⟩ = some (.slice Amb m.tables.length cmb))) (by kernel_rfl) ?_ (fun hHeld => ?_)
    · exact ⟨m0, m1⟩
    refine wpAnyH_take (i := 0) (oi := _) (v := ?_) rfl (by kernel_rfl) (by kernel_rfl) (by kernel_rfl) (fun _ _ _ h => h) (Or.inl ⟨by rfl, ?_⟩) (by assumption) ?_
    rotate_left
    · first | (intro w' hSw; (try dsimp only at hSw); go_simp; done) | (intro w' hSw; (try dsimp only at hSw); go_simp; with_reducible rfl)
    try simp only [Act.put, List.getElem_toArray, List.getElem_cons_zero, List.getElem_cons_succ, List.setIfInBounds_toArray, List.set_cons_zero, List.set_cons_succ]
    refine wpAnyH_take (i := 1) (oi := _) (v := ?_) rfl (by kernel_rfl) (by kernel_rfl) (by kernel_rfl) (fun _ _ _ h => h) (Or.inl ⟨by rfl, ?_⟩) (by assumption) ?_
    rotate_left
    · first | (intro w' hSw; (try dsimp only at hSw); go_simp; done) | (intro w' hSw; (try dsimp only at hSw); go_simp; with_reducible rfl)
    try simp only [Act.put, List.getElem_toArray, List.getElem_cons_zero, List.getElem_cons_succ, List.setIfInBounds_toArray, List.set_cons_zero, List.set_cons_succ]
    refine wpAnyH_take (i := 2) (oi := _) (v := ?_) rfl (by kernel_rfl) (by kernel_rfl) (by kernel_rfl) (fun _ _ _ h => h) (Or.inl ⟨by rfl, ?_⟩) (by assumption) ?_
    rotate_left
    · first | (intro w' hSw; (try dsimp only at hSw); go_simp; done) | (intro w' hSw; (try dsimp only at hSw); go_simp; with_reducible rfl)
    try simp only [Act.put, List.getElem_toArray, List.getElem_cons_zero, List.getElem_cons_succ, List.setIfInBounds_toArray, List.set_cons_zero, List.set_cons_succ]
    refine wpAnyH_take (i := 3) (oi := _) (v := ?_) rfl (by kernel_rfl) (by kernel_rfl) (by kernel_rfl) (fun _ _ _ h => h) (Or.inl ⟨by rfl, ?_⟩) (by assumption) ?_
    rotate_left
    · first | (intro w' hSw; (try dsimp only at hSw); go_simp; done) | (intro w' hSw; (try dsimp only at hSw); go_simp; with_reducible rfl)
    try simp only [Act.put, List.getElem_toArray, List.getElem_cons_zero, List.getElem_cons_succ, List.setIfInBounds_toArray, List.set_cons_zero, List.set_cons_succ]
    refine wpAnyH_take (i := 4) (oi := _) (v := ?_) rfl (by kernel_rfl) (by kernel_rfl) (by kernel_rfl) (fun _ _ _ h => h) (Or.inl ⟨by rfl, ?_⟩) (by assumption) ?_
    rotate_left
    · first | (intro w' hSw; (try dsimp only at hSw); go_simp; done) | (intro w' hSw; (try dsimp only at hSw); go_simp; with_reducible rfl)
    try simp only [Act.put, List.getElem_toArray, List.getElem_cons_zero, List.getElem_cons_succ, List.setIfInBounds_toArray, List.set_cons_zero, List.set_cons_succ]
    refine wpAnyH_take (i := 5) (oi := _) (v := ?_) rfl (by kernel_rfl) (by kernel_rfl) (by kernel_rfl) (fun _ _ _ h => h) (Or.inl ⟨by rfl, ?_⟩) (by assumption) ?_
    rotate_left
    · first | (intro w' hSw; (try dsimp only at hSw); go_simp; done) | (intro w' hSw; (try dsimp only at hSw); go_simp; with_reducible rfl)
    try simp only [Act.put, List.getElem_toArray, List.getElem_cons_zero, List.getElem_cons_succ, List.setIfInBounds_toArray, List.set_cons_zero, List.set_cons_succ]
    refine wpAnyH_ready (rs := [6]) (by kernel_rfl) (by simp) ?_
    refine AllReadyH.cons (o := _) rfl (fun K hK => ?_) AllReadyH.nil
    go_simp
    refine (sizesOf_any m row.dropLast _ _ _ (Hm.out.keep (map_drew (Below.refl _ _))) (HD.out.keep (map_drew (Below.refl _ _))) HIN.out (by rw [HDL.out]; omega)).mono ?_
    rintro x w4 ⟨u4, rfl, ho4, hb4⟩
    have hx4 := map_undrew hb4
    obtain ⟨A4, c4, rfl, -⟩ := ho4.reads.form
    have HO4 := Lib.hid ho4.reads
    have HX4 := Lib.hid hx4
    have j1 := cell_keep hx4 m0
    have j2 := cell_keep hx4 m1
    clear ho4 hb4 hx4
    go_wp2_with fail
    refine hK.out _ _ ?_ (fun hHeld => ?_)
    · exact ⟨j1, j2⟩
    clear hK K
    try simp only [Act.put, List.getElem_toArray, List.getElem_cons_zero, List.getElem_cons_succ, List.setIfInBounds_toArray, List.set_cons_zero, List.set_cons_succ]
    refine wpAnyH_ready (rs := [7]) (by kernel_rfl) (by simp) ?_
    refine AllReadyH.cons (o := _) rfl (fun K hK => ?_) AllReadyH.nil
    go_simp
    refine (rowsOf_any _ w4 _ HO4.out HSZ.out (by rw [ledM_len, HDL.out]; omega)).mono ?_
    rw [HQ.out]
    rintro x w5 ⟨rfl, rfl⟩
    go_wp2_with fail
    refine hK.out _ _ ?_ (fun hHeld => ?_)
    · exact ⟨j1, j2⟩
    clear hK K
    try simp only [Act.put, List.getElem_toArray, List.getElem_cons_zero, List.getElem_cons_succ, List.setIfInBounds_toArray, List.set_cons_zero, List.set_cons_succ]
    refine wpAnyH_take (i := 8) (oi := _) (v := ?_) rfl (by kernel_rfl) (by kernel_rfl) (by kernel_rfl) (fun _ _ _ h => h) (Or.inl ⟨by rfl, ?_⟩) (by assumption) ?_
    rotate_left
    · first | (intro w' hSw; (try dsimp only at hSw); go_simp; done) | (intro w' hSw; (try dsimp only at hSw); go_simp; with_reducible rfl)
    try simp only [Act.put, List.getElem_toArray, List.getElem_cons_zero, List.getElem_cons_succ, List.setIfInBounds_toArray, List.set_cons_zero, List.set_cons_succ]
    refine wpAnyH_done (by kernel_rfl) ?_ _
    clear m0 m1 j1 j2 hx
    go_wp2
    go_loopw [9, 24] (fun p i wr => ∃ k : Nat, k ≤ table.length ∧ i = .int .i64 k ∧ belowB (table.take k) (m.sizes.getD last.toNat 0) = true ∧ Below W.heap.size W wr) (fun _ i _ => table.length - (intOf i).toNat)
    case atStart => exact ⟨0, Nat.zero_le _, rfl, rfl, HX4.out⟩
    case round =>
      obtain ⟨k, hk, rfl, hb0, hd⟩ := hrel
      have HB0 := Lib.hid hb0
      have HBW := Lib.hid hd
      have f0 := cell_keep hd HCX.out.1
      have f1 := cell_keep hd HCX.out.2.1
      have f2 := cell_keep hd HCX.out.2.2
      clear hb0 hd
      by_cases hlt : k < table.length
      · obtain ⟨b3, o3, c3, e, hy⟩ := (H2.out.keep HBW.out).at_ hlt
        cases e
        have hlt' : (k : Int) < (table.length : Int) := by omega
        have HT := Lib.hid (belowB_step (z := m.sizes.getD last.toNat 0) hlt)
        have HN := Lib.hid (belowB_no (z := m.sizes.getD last.toNat 0) hlt)
        generalize table[k] = y at hy HT HN
        obtain ⟨r, hr⟩ : ∃ r, inSize (m.sizes.getD last.toNat 0) y = r := ⟨_, rfl⟩
        have HR := Lib.hid hr
        have hil := HIL.out
        clear hr
        go_wp2_with fail
        refine wp_region_held_drew (S := (fun w' => w'.cell? ⟨w.heap.size, 0, none⟩ = some (.slice Ama m.sizes.length cma) ∧ w'.cell? ⟨w.heap.size, 1, none⟩ = some (.slice Amb m.tables.length cmb) ∧ w'.cell? ⟨b1, o1 + n, none⟩ = some (.int .i64 last))) (by kernel_rfl) ?_ (fun hHeld => ?_)
        · exact ⟨f0, f1, f2⟩
        refine wpAnyH_take (i := 0) (oi := _) (v := ?_) rfl (by kernel_rfl) (by kernel_rfl) (by kernel_rfl) (fun _ _ _ h => h) (Or.inl ⟨by rfl, ?_⟩) (by assumption) ?_
        rotate_left
        · first | (intro w' hSw; (try dsimp only at hSw); go_simp; done) | (intro w' hSw; (try dsimp only at hSw); go_simp; with_reducible rfl)
        try simp only [Act.put, List.getElem_toArray, List.getElem_cons_zero, List.getElem_cons_succ, List.setIfInBounds_toArray, List.set_cons_zero, List.set_cons_succ]
        refine wpAnyH_take (i := 1) (oi := _) (v := ?_) rfl (by kernel_rfl) (by kernel_rfl) (by kernel_rfl) (fun _ _ _ h => h) (Or.inl ⟨by rfl, ?_⟩) (by assumption) ?_
        rotate_left
        · first | (intro w' hSw; (try dsimp only at hSw); go_simp; done) | (intro w' hSw; (try dsimp only at hSw); go_simp; with_reducible rfl)
        try simp only [Act.put, List.getElem_toArray, List.getElem_cons_zero, List.getElem_cons_succ, List.setIfInBounds_toArray, List.set_cons_zero, List.set_cons_succ]
        refine wpAnyH_take (i := 2) (oi := _) (v := ?_) rfl (by kernel_rfl) (by kernel_rfl) (by kernel_rfl) (fun _ _ _ h => h) (Or.inl ⟨by rfl, ?_⟩) (by assumption) ?_
        rotate_left
        · first | (intro w' hSw; (try dsimp only at hSw); go_simp; done) | (intro w' hSw; (try dsimp only at hSw); go_simp; with_reducible rfl)
        try simp only [Act.put, List.getElem_toArray, List.getElem_cons_zero, List.getElem_cons_succ, List.setIfInBounds_toArray, List.set_cons_zero, List.set_cons_succ]
        refine wpAnyH_take (i := 3) (oi := _) (v := ?_) rfl (by kernel_rfl) (by kernel_rfl) (by kernel_rfl) (fun _ _ _ h => h) (Or.inl ⟨by rfl, ?_⟩) (by assumption) ?_
        rotate_left
        · first | (intro w' hSw; (try dsimp only at hSw); go_simp; done) | (intro w' hSw; (try dsimp only at hSw); go_simp; with_reducible rfl)
        try simp only [Act.put, List.getElem_toArray, List.getElem_cons_zero, List.getElem_cons_succ, List.setIfInBounds_toArray, List.set_cons_zero, List.set_cons_succ]
        refine wpAnyH_take (i := 4) (oi := _) (v := ?_) rfl (by kernel_rfl) (by kernel_rfl) (by kernel_rfl) (fun _ _ _ h => h) (Or.inl ⟨by rfl, ?_⟩) (by assumption) ?_
        rotate_left
        · first | (intro w' hSw; (try dsimp only at hSw); go_simp; done) | (intro w' hSw; (try dsimp only at hSw); go_simp; with_reducible rfl)
        try simp only [Act.put, List.getElem_toArray, List.getElem_cons_zero, List.getElem_cons_succ, List.setIfInBounds_toArray, List.set_cons_zero, List.set_cons_succ]
        refine wpAnyH_take (i := 5) (oi := _) (v := ?_) rfl (by kernel_rfl) (by kernel_rfl) (by kernel_rfl) (fun _ _ _ h => h) (Or.inl ⟨by rfl, ?_⟩) (by assumption) ?_
        rotate_left
        · first | (intro w' hSw; (try dsimp only at hSw); go_simp; done) | (intro w' hSw; (try dsimp only at hSw); go_simp; with_reducible rfl)
        try simp only [Act.put, List.getElem_toArray, List.getElem_cons_zero, List.getElem_cons_succ, List.setIfInBounds_toArray, List.set_cons_zero, List.set_cons_succ]
        refine wpAnyH_ready (rs := [6]) (by kernel_rfl) (by simp) ?_
        refine AllReadyH.cons (o := _) rfl (fun K hK => ?_) AllReadyH.nil
        go_simp
        refine (isValue_any m last y _ _ ((Hm.out.keep HBW.out).keep (map_drew (Below.refl _ _))) hil.1 hil.2).mono ?_
        rw [HR.out]
        rintro x w6 ⟨rfl, hb6⟩
        have hx6 := map_undrew hb6
        have HX6 := Lib.hid (sz_keep HBW.out hx6)
        have j1 := cell_keep hx6 f0
        have j2 := cell_keep hx6 f1
        have j3 := cell_keep hx6 f2
        clear hb6 hx6
        go_wp2_with fail
        refine hK.out _ _ ?_ (fun hHeld => ?_)
        · exact ⟨j1, j2, j3⟩
        clear hK K
        try simp only [Act.put, List.getElem_toArray, List.getElem_cons_zero, List.getElem_cons_succ, List.setIfInBounds_toArray, List.set_cons_zero, List.set_cons_succ]
        refine wpAnyH_take (i := 7) (oi := _) (v := ?_) rfl (by kernel_rfl) (by kernel_rfl) (by kernel_rfl) (fun _ _ _ h => h) (Or.inl ⟨by rfl, ?_⟩) (by assumption) ?_
        rotate_left
        · first | (intro w' hSw; (try dsimp only at hSw); go_simp; done) | (intro w' hSw; (try dsimp only at hSw); go_simp; with_reducible rfl)
        try simp only [Act.put, List.getElem_toArray, List.getElem_cons_zero, List.getElem_cons_succ, List.setIfInBounds_toArray, List.set_cons_zero, List.set_cons_succ]
        refine wpAnyH_done (by kernel_rfl) ?_ _
        clear f0 f1 f2 j1 j2 j3 hy hil
        cases r with
        | true =>
          go_wp2
          go_roundw
          case rel => exact ⟨k + 1, by omega, by go_num, by rw [HT.out, HB0.out, HR.out]; rfl, HX6.out⟩
          case measure => simp [intOf]; omega
        | false =>
          have HF := Lib.hid (tableB_val (row := row) (by rw [HLS.out]; exact HN.out HR.out))
          go_wp2
          go_ret
          exact ⟨ret_bool HF.out.symm, sz_keep HB.out HX6.out⟩
      · have hkn : k = table.length := by omega
        have hlt' : ¬ (k : Int) < (table.length : Int) := by omega
        have HT := Lib.hid (show table.take k = table from take_all (by omega))
        rw [HT.out] at HB0
        have HF := Lib.hid (tableB_yes (sizes := m.sizes) (row := row) (by rw [HQ.out]; exact HLEN.out) (by rw [HLS.out]; exact HB0.out))
        clear f0 f1 f2
        go_wp2
        go_ret
        exact ⟨ret_bool HF.out.symm, sz_keep HB.out HBW.out⟩
  · have HF := Lib.hid (tableB_len (by rw [HQ.out]; exact hlen))
    have e1 : ((table.length : Int) != q) = true := by simpa using hlen
    clear hlen
    go_enter Try.func139, Try.ntmps139
    go_wp2_with fail
    clear hW
    refine wp_region_held_drew (S := (fun w' => w'.cell? ⟨w.heap.size, 0, none⟩ = some (.slice Ama m.sizes.length cma) ∧ w'.cell? ⟨w.heap.size, 1, none⟩ = some (.slice Amb m.tables.length cmb))) (by kernel_rfl) ?_ (fun hHeld => ?_)
    · exact ⟨m0, m1⟩
    refine wpAnyH_take (i := 0) (oi := _) (v := ?_) rfl (by kernel_rfl) (by kernel_rfl) (by kernel_rfl) (fun _ _ _ h => h) (Or.inl ⟨by rfl, ?_⟩) (by assumption) ?_
    rotate_left
    · first | (intro w' hSw; (try dsimp only at hSw); go_simp; done) | (intro w' hSw; (try dsimp only at hSw); go_simp; with_reducible rfl)
    try simp only [Act.put, List.getElem_toArray, List.getElem_cons_zero, List.getElem_cons_succ, List.setIfInBounds_toArray, List.set_cons_zero, List.set_cons_succ]
    refine wpAnyH_take (i := 1) (oi := _) (v := ?_) rfl (by kernel_rfl) (by kernel_rfl) (by kernel_rfl) (fun _ _ _ h => h) (Or.inl ⟨by rfl, ?_⟩) (by assumption) ?_
    rotate_left
    · first | (intro w' hSw; (try dsimp only at hSw); go_simp; done) | (intro w' hSw; (try dsimp only at hSw); go_simp; with_reducible rfl)
    try simp only [Act.put, List.getElem_toArray, List.getElem_cons_zero, List.getElem_cons_succ, List.setIfInBounds_toArray, List.set_cons_zero, List.set_cons_succ]
    refine wpAnyH_take (i := 2) (oi := _) (v := ?_) rfl (by kernel_rfl) (by kernel_rfl) (by kernel_rfl) (fun _ _ _ h => h) (Or.inl ⟨by rfl, ?_⟩) (by assumption) ?_
    rotate_left
    · first | (intro w' hSw; (try dsimp only at hSw); go_simp; done) | (intro w' hSw; (try dsimp only at hSw); go_simp; with_reducible rfl)
    try simp only [Act.put, List.getElem_toArray, List.getElem_cons_zero, List.getElem_cons_succ, List.setIfInBounds_toArray, List.set_cons_zero, List.set_cons_succ]
    refine wpAnyH_take (i := 3) (oi := _) (v := ?_) rfl (by kernel_rfl) (by kernel_rfl) (by kernel_rfl) (fun _ _ _ h => h) (Or.inl ⟨by rfl, ?_⟩) (by assumption) ?_
    rotate_left
    · first | (intro w' hSw; (try dsimp only at hSw); go_simp; done) | (intro w' hSw; (try dsimp only at hSw); go_simp; with_reducible rfl)
    try simp only [Act.put, List.getElem_toArray, List.getElem_cons_zero, List.getElem_cons_succ, List.setIfInBounds_toArray, List.set_cons_zero, List.set_cons_succ]
    refine wpAnyH_take (i := 4) (oi := _) (v := ?_) rfl (by kernel_rfl) (by kernel_rfl) (by kernel_rfl) (fun _ _ _ h => h) (Or.inl ⟨by rfl, ?_⟩) (by assumption) ?_
    rotate_left
    · first | (intro w' hSw; (try dsimp only at hSw); go_simp; done) | (intro w' hSw; (try dsimp only at hSw); go_simp; with_reducible rfl)
    try simp only [Act.put, List.getElem_toArray, List.getElem_cons_zero, List.getElem_cons_succ, List.setIfInBounds_toArray, List.set_cons_zero, List.set_cons_succ]
    refine wpAnyH_take (i := 5) (oi := _) (v := ?_) rfl (by kernel_rfl) (by kernel_rfl) (by kernel_rfl) (fun _ _ _ h => h) (Or.inl ⟨by rfl, ?_⟩) (by assumption) ?_
    rotate_left
    · first | (intro w' hSw; (try dsimp only at hSw); go_simp; done) | (intro w' hSw; (try dsimp only at hSw); go_simp; with_reducible rfl)
    try simp only [Act.put, List.getElem_toArray, List.getElem_cons_zero, List.getElem_cons_succ, List.setIfInBounds_toArray, List.set_cons_zero, List.set_cons_succ]
    refine wpAnyH_ready (rs := [6]) (by kernel_rfl) (by simp) ?_
    refine AllReadyH.cons (o := _) rfl (fun K hK => ?_) AllReadyH.nil
    go_simp
    refine (sizesOf_any m row.dropLast _ _ _ (Hm.out.keep (map_drew (Below.refl _ _))) (HD.out.keep (map_drew (Below.refl _ _))) HIN.out (by rw [HDL.out]; omega)).mono ?_
    rintro x w4 ⟨u4, rfl, ho4, hb4⟩
    have hx4 := map_undrew hb4
    obtain ⟨A4, c4, rfl, -⟩ := ho4.reads.form
    have HO4 := Lib.hid ho4.reads
    have HX4 := Lib.hid hx4
    have j1 := cell_keep hx4 m0
    have j2 := cell_keep hx4 m1
    clear ho4 hb4 hx4
    go_wp2_with fail
    refine hK.out _ _ ?_ (fun hHeld => ?_)
    · exact ⟨j1, j2⟩
    clear hK K
    try simp only [Act.put, List.getElem_toArray, List.getElem_cons_zero, List.getElem_cons_succ, List.setIfInBounds_toArray, List.set_cons_zero, List.set_cons_succ]
    refine wpAnyH_ready (rs := [7]) (by kernel_rfl) (by simp) ?_
    refine AllReadyH.cons (o := _) rfl (fun K hK => ?_) AllReadyH.nil
    go_simp
    refine (rowsOf_any _ w4 _ HO4.out HSZ.out (by rw [ledM_len, HDL.out]; omega)).mono ?_
    rw [HQ.out]
    rintro x w5 ⟨rfl, rfl⟩
    go_wp2_with fail
    refine hK.out _ _ ?_ (fun hHeld => ?_)
    · exact ⟨j1, j2⟩
    clear hK K
    try simp only [Act.put, List.getElem_toArray, List.getElem_cons_zero, List.getElem_cons_succ, List.setIfInBounds_toArray, List.set_cons_zero, List.set_cons_succ]
    refine wpAnyH_take (i := 8) (oi := _) (v := ?_) rfl (by kernel_rfl) (by kernel_rfl) (by kernel_rfl) (fun _ _ _ h => h) (Or.inl ⟨by rfl, ?_⟩) (by assumption) ?_
    rotate_left
    · first | (intro w' hSw; (try dsimp only at hSw); go_simp; done) | (intro w' hSw; (try dsimp only at hSw); go_simp; with_reducible rfl)
    try simp only [Act.put, List.getElem_toArray, List.getElem_cons_zero, List.getElem_cons_succ, List.setIfInBounds_toArray, List.set_cons_zero, List.set_cons_succ]
    refine wpAnyH_done (by kernel_rfl) ?_ _
    clear m0 m1 j1 j2 hx
    go_wp2
    go_ret
    exact ⟨ret_bool HF.out.symm, sz_keep HB.out HX4.out⟩
end

section
open Go.RowKit
set_option linter.unusedVariables false
set_option linter.unusedSimpArgs false

theorem rowLed_dl {sizes row : List Int} (h : ∀ x ∈ row, 0 ≤ x ∧ x < (sizes.length : Int)) (hs : sizes.length ≤ 3) : rowLed sizes row.dropLast = ledM sizes row.dropLast :=
  rowLed_led fun x hx => by have := h x (List.mem_of_mem_dropLast' hx); omega
theorem led_dl_at {sizes row : List Int} {k : Nat} (hk : k + 1 < row.length) (h : ∀ x ∈ row, 0 ≤ x ∧ x < (sizes.length : Int)) (hs : sizes.length ≤ 3) (h1 : k < (ledM sizes row.dropLast).length) : (ledM sizes row.dropLast)[k] = sizes.getD (row[k]).toNat 0 := by
  have hd : k < row.dropLast.length := by rw [List.length_dropLast]; omega
  have e := ledM_at (tq := sizes) hd
  rw [List.getElem?_eq_getElem h1] at e
  injection e with e
  rw [e]
  have hg : row.dropLast[k] = row[k] := List.getElem_dropLast hd
  rw [hg]
  have := h _ (List.getElem_mem (show k < row.length by omega))
  rw [if_pos (by omega)]

set_option maxRecDepth 100000 in
theorem l5Rows_any (sizes row : List Int) (w : World) (v v' : Value) (h : RInts w v sizes) (h' : RInts w v' row) (hr1 : 1 ≤ row.length) (hr3 : row.length ≤ 3) (hz : Sizes sizes) (hin : ∀ x ∈ row, 0 ≤ x ∧ x < (sizes.length : Int)) (hms : sizes.length ≤ 3) :
    Calls Try.prog 138 #[v, v'] w fun e w' => e = .returned (.int .i64 (waysM (ledM sizes row.dropLast))) ∧ w = w' := by
  have H := Lib.hid h
  have H' := Lib.hid h'
  obtain ⟨A, c, rfl, -⟩ := h.form
  obtain ⟨A', c', rfl, -⟩ := h'.form
  have hll : (ledM sizes row.dropLast).length = row.length - 1 := by rw [ledM_len, List.length_dropLast]
  have hsz : Sizes (ledM sizes row.dropLast) := sizes_led hz fun x hx => by have := hin x (List.mem_of_mem_dropLast' hx); omega
  have HW := Lib.hid (fun (k : Nat) (hk : k < (ledM sizes row.dropLast).length) => ways_wrap hsz (by omega) hk)
  have HA := Lib.hid (fun (k : Nat) (hk : k + 1 < row.length) (h1 : k < (ledM sizes row.dropLast).length) => led_dl_at hk hin hms h1)
  have HIN := Lib.hid hin
  have HLL := Lib.hid hll
  generalize hzs : ledM sizes row.dropLast = zs at HW HA HLL ⊢
  clear h h' hz hin hll hsz hzs
  go_enter Try.func138, Try.ntmps138
  go_wp2
  go_loopw [5, 6] (fun p i wr => ∃ k : Nat, k + 1 ≤ row.length ∧ i = .int .i64 k ∧ p = .int .i64 (waysM (zs.take k)) ∧ w = wr) (fun _ i _ => row.length - (intOf i).toNat)
  case atStart => exact ⟨0, by omega, rfl, rfl, rfl⟩
  case round =>
    obtain ⟨k, hk, rfl, rfl, rfl⟩ := hrel
    by_cases hlt : k + 1 < row.length
    · have hkr : k < row.length := by omega
      obtain ⟨b, o, c2, e, hx⟩ := H'.out.at_ hkr
      cases e
      have hlt' : (k : Int) + 1 < (row.length : Int) := by omega
      have hkz : k < zs.length := by have := HLL.out; omega
      have HI := Lib.hid (HIN.out _ (List.getElem_mem hkr))
      have hza := HA.out k hlt hkz
      have hw := HW.out k hkz
      rw [hza] at hw
      clear hza
      generalize row[k] = x at hx HI hw
      obtain ⟨n, rfl⟩ : ∃ n : Nat, x = (n : Int) := ⟨x.toNat, by have := HI.out; omega⟩
      have hns : n < sizes.length := by have := HI.out; omega
      have hns' : (n : Int) < (sizes.length : Int) := by omega
      obtain ⟨b2, o2, c3, e, hy⟩ := H.out.at_ hns
      cases e
      rw [Int.toNat_natCast, getD_at _ hns] at hw
      generalize sizes[n] = z at hy hw
      generalize hq : waysM (zs.take (k + 1)) = q at hw
      have HQ := Lib.hid hq
      have hw1 : IntKind.i64.wrap ((k : Int) + 1) = (k : Int) + 1 := by rw [IntKind.wrap_i64]; omega
      clear hq
      go_wp2
      go_roundw
      case rel => exact ⟨k + 1, by omega, by go_num, by rw [HQ.out], by first | trivial | rfl⟩
      case measure => simp [intOf]; omega
    · have hkn : k = zs.length := by have := HLL.out; omega
      have hlt' : ¬ (k : Int) + 1 < (row.length : Int) := by omega
      have HT := Lib.hid (show zs.take k = zs from take_all (by omega))
      have hw1 : IntKind.i64.wrap ((k : Int) + 1) = (k : Int) + 1 := by rw [IntKind.wrap_i64]; omega
      rw [HT.out]
      go_wp2
      go_ret
      exact ⟨rfl, rfl⟩
end

section
open Go.RowKit
set_option linter.unusedVariables false
set_option linter.unusedSimpArgs false

/-- of what was there only two blocks have turned -/
structure Two2 (a w : World) (l g : Nat) : Prop where
  os : w.os = a.os
  tape : w.tape = a.tape
  output : w.output = a.output
  size : a.heap.size ≤ w.heap.size
  block : ∀ k, k < a.heap.size → k ≠ l → k ≠ g → w.heap[k]? = a.heap[k]?
theorem Two2.refl (a : World) (l g : Nat) : Two2 a a l g := ⟨rfl, rfl, rfl, Nat.le_refl _, fun _ _ _ _ => rfl⟩
theorem Two2.grown {a w w' : World} {l g : Nat} {row : Option Nat} (h : Two2 a w l g) (k : w.grownBy w' row) (hr : ∀ x, row = some x → x = l ∨ x = g ∨ a.heap.size ≤ x) : Two2 a w' l g :=
  ⟨k.os.trans h.os, k.tape.trans h.tape, k.output.trans h.output, Nat.le_trans h.size k.size, fun i hi h1 h2 => (k.block i (Nat.lt_of_lt_of_le hi h.size) (fun e => by rcases hr i e.symm with x | x | x <;> omega)).trans (h.block i hi h1 h2)⟩
theorem Two2.alloc {a w : World} {l g : Nat} (h : Two2 a w l g) (o : Obj) : Two2 a (w.alloc o) l g := h.grown (World.grownBy_alloc w o none) (fun x e => by cases e)
theorem Two2.drew {a w : World} {l g : Nat} (h : Two2 a w l g) : Two2 a w.drew l g := ⟨h.os, h.tape, h.output, h.size, h.block⟩
theorem Two2.set {a w : World} {l g b : Nat} (h : Two2 a w l g) (i : Nat) (u : Value) (hb : b = l ∨ b = g ∨ a.heap.size ≤ b) : Two2 a (w.setCell ⟨b, i, none⟩ u) l g :=
  ⟨h.os, h.tape, h.output, by simpa [World.setCell] using h.size, fun k hk h1 h2 => (Below.heap_setCell w ⟨b, i, none⟩ u k (by show k ≠ b; rcases hb with x | x | x <;> omega)).trans (h.block k hk h1 h2)⟩
theorem Two2.at_ {a w : World} {l g k : Nat} {o : Obj} (h : Two2 a w l g) (ho : a.heap[k]? = some o) (h1 : k ≠ l) (h2 : k ≠ g) : w.heap[k]? = some o := (h.block k (Array.getElem?_eq_some_iff.1 ho).1 h1 h2).trans ho
theorem Two2.below {a w : World} {l g : Nat} {w0 : World} (h : Two2 a w l g) (hb : w0.grownBy a (some g)) (hl : w0.heap.size ≤ l) : w0.grownBy w (some g) :=
  ⟨h.os.trans hb.os, h.tape.trans hb.tape, h.output.trans hb.output, Nat.le_trans hb.size h.size, fun k hk hne => (h.block k (Nat.lt_of_lt_of_le hk hb.size) (by omega) (fun e => hne (by rw [e]))).trans (hb.block k hk hne)⟩

theorem Two2.cell {a w : World} {l g b o : Nat} {u : Value} (h : Two2 a w l g) (hc : a.cell? ⟨b, o, none⟩ = some u) (h1 : b ≠ l) (h2 : b ≠ g) : w.cell? ⟨b, o, none⟩ = some u := by
  have hl := World.block_lt_of_cell? a _ hc
  rw [World.cell?_of_block (h.block b hl h1 h2)]
  exact hc
theorem two_ints {a w : World} {l g : Nat} {v : Value} {xs : List Int} (h : Two2 a w l g) {w0 : World} (hr : RInts w0 v xs) (hb : Below w0.heap.size w0 a) (hl : w0.heap.size ≤ l) (hg : w0.heap.size ≤ g) : RInts w v xs :=
  hr.keep ⟨h.os.trans hb.os, h.tape.trans hb.tape, h.output.trans hb.output, Nat.le_trans hb.size h.size, fun k hk => (h.block k (Nat.lt_of_lt_of_le hk hb.size) (by omega) (by omega)).trans (hb.block k hk)⟩
/-- inside l20ModelOf: a: the world ahead of the loops; l: the local model's block, g: the reader's -/
structure MdAt (a w : World) (l g : Nat) (u x : Value) (zs : List Int) (q : Nat) : Prop where
  loc : w.heap[l]? = some (.cells #[u, x] 28 (0, 0))
  own : OInts w a.heap.size u zs
  rd : RRd w g q
  two : Two2 a w l g
  gl : g < l
  la : l < a.heap.size
  sz : Sizes zs
/-- the literal of sizes -/
def lit4 : Obj := .cells #[.int .i64 1, .int .i64 2, .int .i64 2, .int .i64 3] 3
theorem lit4_at {w : World} {b : Nat} (h : w.heap[b]? = some (.cells #[.int .i64 1, .int .i64 2, .int .i64 2, .int .i64 3] 3 (0, 0))) {y : Nat} (hy : y < 4) : ∃ z : Int, w.cell? ⟨b, y, none⟩ = some (.int .i64 z) ∧ 1 ≤ z ∧ z ≤ 3 := by
  rw [blk_cell h]
  match y, hy with
  | 0, _ => exact ⟨1, rfl, by omega, by omega⟩
  | 1, _ => exact ⟨2, rfl, by omega, by omega⟩
  | 2, _ => exact ⟨2, rfl, by omega, by omega⟩
  | 3, _ => exact ⟨3, rfl, by omega, by omega⟩
/-- behind the literal and the pick, in whatever order -/
structure MdMid (a w : World) (l g b : Nat) (u x : Value) (zs : List Int) (q y : Nat) : Prop where
  at_ : MdAt a w l g u x zs q
  lit : w.heap[b]? = some (.cells #[.int .i64 1, .int .i64 2, .int .i64 2, .int .i64 3] 3 (0, 0))
  hy : y < 4
theorem MdAt.later {a w w' : World} {l g : Nat} {u x : Value} {zs : List Int} {q q' : Nat} (h : MdAt a w l g u x zs q) (hg : w.grownBy w' (some g)) (hr : RRd w' g q') : MdAt a w' l g u x zs q' :=
  ⟨gr_at hg (by have := h.gl; omega) h.loc, own_grown h.own hg (by
    cases e : u.ownBlock with
    | none => exact .inl rfl
    | some k => right; intro e2; injection e2 with e2; have := (own_lt h.own k e).1; have := h.gl; have := h.la; omega), hr, h.two.grown hg (fun x e => by injection e with e; exact .inr (.inl e.symm)), h.gl, h.la, h.sz⟩
theorem MdAt.alloc {a w : World} {l g : Nat} {u x : Value} {zs : List Int} {q : Nat} (h : MdAt a w l g u x zs q) (o : Obj) : MdAt a (w.alloc o) l g u x zs q :=
  ⟨(heap_alloc_old w o (Array.getElem?_eq_some_iff.1 h.loc).1).trans h.loc, h.own.keep (below_alloc w o), h.rd.keep (below_alloc w o), h.two.alloc o, h.gl, h.la, h.sz⟩
theorem MdAt.drew {a w : World} {l g : Nat} {u x : Value} {zs : List Int} {q : Nat} (h : MdAt a w l g u x zs q) : MdAt a w.drew l g u x zs q := ⟨h.loc, h.own, h.rd, h.two.drew, h.gl, h.la, h.sz⟩
/-- one size more: w6 behind the append, w6.setCell: stored -/
theorem MdAt.push {a w w6 : World} {l g : Nat} {u x v' : Value} {zs : List Int} {q : Nat} {z : Int} {o : Obj} (h : MdAt a w l g u x zs q) (hg : (w.alloc o).grownBy w6 u.ownBlock) (ho : OInts w6 a.heap.size v' (zs ++ [z])) (hz : 1 ≤ z ∧ z ≤ 3) :
    MdAt a (w6.setCell ⟨l, 0, none⟩ v') l g v' x (zs ++ [z]) q ∧ w6.heap[l]? = some (.cells #[u, x] 28 (0, 0)) := by
  have hb : ∀ k, u.ownBlock = some k → a.heap.size ≤ k := fun k e => (own_lt h.own k e).1
  have hla := h.la
  have hgl := h.gl
  have hl6 : w6.heap[l]? = some (.cells #[u, x] 28 (0, 0)) := by
    have hlr := (Array.getElem?_eq_some_iff.1 h.loc).1
    exact ((hg.block l (by simp; omega) (fun e => by have := hb l e.symm; omega)).trans (heap_alloc_old w o hlr)).trans h.loc
  have hr6 : RRd w6 g q := (h.rd.keep (below_alloc w o)).grown hg (fun k e => by have := hb k e; omega)
  refine ⟨⟨blk_set hl6 0 v', ho.setLow hla 0 v', hr6.setCell hgl v', ((h.two.alloc o).grown hg (fun k e => .inr (.inr (hb k e)))).set 0 v' (.inl rfl), hgl, hla, ?_⟩, hl6⟩
  intro y hy
  rcases List.mem_append.1 hy with hy | hy
  · exact h.sz y hy
  · rw [List.mem_singleton.1 hy]; exact hz

/-- in the second loop: wa: the world behind the sizes; rows: the tables -/
structure MdTab (a wa w : World) (l g : Nat) (u x : Value) (zs : List Int) (rows : List (List Int)) (q : Nat) : Prop where
  loc : w.heap[l]? = some (.cells #[u, x] 28 (0, 0))
  own : OInts w a.heap.size u zs
  ub : ∀ k, u.ownBlock = some k → k < wa.heap.size
  tab : ORows w wa.heap.size x rows
  rd : RRd w g q
  two : Two2 a w l g
  gl : g < l
  la : l < a.heap.size
  aw : a.heap.size ≤ wa.heap.size
  ww : wa.heap.size ≤ w.heap.size
  sz : Sizes zs
theorem MdAt.tabs {a w : World} {l g : Nat} {u : Value} {zs : List Int} {q : Nat} (h : MdAt a w l g u (.slice none 0 0) zs q) : MdTab a w w l g u (.slice none 0 0) zs [] q :=
  ⟨h.loc, h.own, fun k e => (own_lt h.own k e).2, ORows.nil _ _, h.rd, h.two, h.gl, h.la, h.two.size, Nat.le_refl _, h.sz⟩
theorem MdTab.later {a wa w w' : World} {l g : Nat} {u x : Value} {zs : List Int} {rows : List (List Int)} {q q' : Nat} (h : MdTab a wa w l g u x zs rows q) (hg : w.grownBy w' (some g)) (hr : RRd w' g q') : MdTab a wa w' l g u x zs rows q' := by
  have h1 := h.gl
  have h2 := h.la
  have h3 := h.aw
  exact ⟨gr_at hg (by omega) h.loc, own_past h.own hg (by omega), h.ub, h.tab.grown hg (fun k e => by injection e with e; omega), hr, h.two.grown hg (fun x e => by injection e with e; exact .inr (.inl e.symm)), h.gl, h.la, h.aw, Nat.le_trans h.ww hg.size, h.sz⟩
theorem MdTab.alloc {a wa w : World} {l g : Nat} {u x : Value} {zs : List Int} {rows : List (List Int)} {q : Nat} (h : MdTab a wa w l g u x zs rows q) (o : Obj) : MdTab a wa (w.alloc o) l g u x zs rows q :=
  ⟨(heap_alloc_old w o (Array.getElem?_eq_some_iff.1 h.loc).1).trans h.loc, h.own.keep (below_alloc w o), h.ub, h.tab.keep (below_alloc w o), h.rd.keep (below_alloc w o), h.two.alloc o, h.gl, h.la, h.aw, by have := h.ww; simp; omega, h.sz⟩
theorem MdTab.drew {a wa w : World} {l g : Nat} {u x : Value} {zs : List Int} {rows : List (List Int)} {q : Nat} (h : MdTab a wa w l g u x zs rows q) : MdTab a wa w.drew l g u x zs rows q := ⟨h.loc, h.own, h.ub, h.tab.keep (map_drew (Below.refl _ _)), h.rd, h.two.drew, h.gl, h.la, h.aw, h.ww, h.sz⟩
/-- one table more: wb: where the tables were last told; wj: ahead of the append -/
theorem MdTab.push {a wa wb wj w7 : World} {l g : Nat} {u x v' tv : Value} {zs row : List Int} {rows : List (List Int)} {q q2 : Nat} {us : List Value} (h : MdTab a wa wb l g u x zs rows q) (hj : wb.grownBy wj (some g)) (hr : RRd wj g q2) (ht : OInts wj wb.heap.size tv row)
    (h1 : wb.ownsRow wa.heap.size 26 1 x rows.length us) (h2 : us.length = rows.length)
    (h3 : ∀ (j : Nat) (u : Value) (row : List Int), us[j]? = some u → rows[j]? = some row → OInts wb wa.heap.size u row) (h4 : ∀ (i j : Nat) (u u' : Value), i < j → us[i]? = some u → us[j]? = some u' → u.ownBlock = none ∨ u.ownBlock ≠ u'.ownBlock)
    (hv' : w7.ownsRow wa.heap.size 26 1 v' (rows.length + 1) (us ++ [tv])) (hg : (wj.alloc (.cells #[tv] 26)).grownBy w7 x.ownBlock) :
    MdTab a wa (w7.setCell ⟨l, 1, none⟩ v') l g u v' zs (rows ++ [row]) q2 ∧ w7.heap[l]? = some (.cells #[u, x] 28 (0, 0)) := by
  have hb : ∀ k, x.ownBlock = some k → wa.heap.size ≤ k := fun k e => (own_lt h1 k e).1
  have g1 := h.gl
  have g2 := h.la
  have g3 := h.aw
  have g4 := h.ww
  have hm := h.later hj hr
  have hl7 : w7.heap[l]? = some (.cells #[u, x] 28 (0, 0)) :=
    ((hg.block l (by have := (Array.getElem?_eq_some_iff.1 hm.loc).1; simp; omega) (fun e => by have := hb l e.symm; omega)).trans (heap_alloc_old wj _ (Array.getElem?_eq_some_iff.1 hm.loc).1)).trans hm.loc
  have hr7 : RRd w7 g q2 := (hr.keep (below_alloc wj _)).grown hg (fun k e => by have := hb k e; omega)
  have ho7 : OInts w7 a.heap.size u zs := by
    refine own_grown (hm.own.keep (below_alloc wj (.cells #[tv] 26))) hg ?_
    cases e : u.ownBlock with
    | none => exact .inl rfl
    | some k => right; intro e2; have := hb k e2.symm; have := h.ub k e; omega
  have ht7 : ORows w7 wa.heap.size v' (rows ++ [row]) := rows_push h1 h2 h3 h4 hj (by omega) (Nat.le_refl _) g4 ht hv' hg
  exact ⟨⟨blk_set hl7 1 v', ho7.setLow g2 1 v', h.ub, ht7.setLow' (by omega) 1 v', hr7.setCell g1 v', ((hm.two.alloc _).grown hg (fun k e => .inr (.inr (by have := hb k e; omega)))).set 1 v' (.inl rfl), g1, g2, g3, by
    have h5 := hj.size
    have h6 := hg.size
    simp at h6
    simp [World.setCell]
    omega, h.sz⟩, hl7⟩
theorem osig_of {w : World} {B : Nat} {a0 a1 : Value} {s : MSig} (h : OSig w B (.agg #[a0, a1]) s) : ORows w B a1 s.ops := by
  obtain ⟨u, e, h⟩ := h
  have e2 : a1 = u := by injection e with e; simp at e; exact e.2
  rw [e2]; exact h
theorem orows_at {w : World} {B : Nat} {v : Value} {rows : List (List Int)} (h : ORows w B v rows) {k : Nat} (hk : k < rows.length) : ∃ b o c u, v = .slice (some ⟨b, o, none⟩) rows.length c ∧ w.cell? ⟨b, o + k, none⟩ = some u ∧ OInts w B u rows[k] := by
  obtain ⟨us, h1, h2, h3, h4⟩ := h
  obtain ⟨A, c, e, -, -, h5⟩ := own_reads h1
  have hu : us[k]? = some us[k] := List.getElem?_eq_getElem (by omega)
  obtain ⟨b, o, rfl, hc⟩ := h5 k _ hu
  exact ⟨b, o, c, _, e, hc, h3 k _ _ hu (List.getElem?_eq_getElem hk)⟩
/-- what l20ModelOf answers -/
def MdPost (s : MSig) (g p : Nat) (w : World) (e : Ending) (w' : World) : Prop :=
  ∃ (v : Value) (m : MModel) (q : Nat), e = .returned v ∧ OModel w' w.heap.size v m ∧ (m.sizes.length : Int) = s.sorts ∧ Sizes m.sizes ∧ m.tables.length = s.ops.length ∧ (∀ row ∈ m.tables, 1 ≤ row.length ∧ row.length ≤ 9) ∧ RRd w' g q ∧ q ≤ p + 70 ∧ w.grownBy w' (some g)
theorem md_done {a wa wr w : World} {l g rb : Nat} {u x c0 c1 : Value} {zs : List Int} {rows : List (List Int)} {q : Nat} (h : MdTab a wa wr l g u x zs rows q) (hg : w.grownBy wr (some g)) (hrb : rb < wr.heap.size) (hrl : rb < l ∧ w.heap.size ≤ rb) (hgr : g < rb) (hres : wr.heap[rb]? = some (.cells #[c0, c1] 28 (0, 0))) :
    ((wr.setCell ⟨rb, 0, none⟩ u).setCell ⟨rb, 1, none⟩ x).heap[rb]? = some (.cells #[u, x] 28 (0, 0)) ∧ (w.heap.size ≤ a.heap.size → OModel ((wr.setCell ⟨rb, 0, none⟩ u).setCell ⟨rb, 1, none⟩ x) w.heap.size (.agg #[u, x]) ⟨zs, rows⟩) ∧ RRd ((wr.setCell ⟨rb, 0, none⟩ u).setCell ⟨rb, 1, none⟩ x) g q ∧ w.grownBy ((wr.setCell ⟨rb, 0, none⟩ u).setCell ⟨rb, 1, none⟩ x) (some g) := by
  have h1 := h.la
  have h2 := h.aw
  refine ⟨blk_set (blk_set hres 0 u) 1 x, fun hwa => ⟨_, _, rfl, ((h.own.setLow (by omega) 0 u).setLow (by omega) 1 x).base hwa, wa.heap.size, by omega, h.ub, (h.tab.setLow' (by omega) 0 u).setLow' (by omega) 1 x⟩, (h.rd.setCell hgr u).setCell hgr x, gr_setCell (gr_setCell hg (.inr hrl.2) u) (.inr hrl.2) x⟩
/-- a number more in a table: with or without a pick ahead of it -/
theorem row_append {wj w1 wo w2 : World} {g q q' : Nat} {rv v' : Value} {row : List Int} {x : Int} {o : Obj} (h : RowAt wo wo wj g rv row q) (hgl : g < wo.heap.size) (hp : wj.grownBy w2 (some g)) (hr : RRd w2 g q')
    (hv' : w1.ownsRow wo.heap.size 3 1 v' (row.length + 1) (row.map (Value.int .i64) ++ [.int .i64 x])) (hg1 : (w2.alloc o).grownBy w1 rv.ownBlock) : RowAt wo wo w1 g v' (row ++ [x]) q' := by
  have hb : ∀ k, rv.ownBlock = some k → wo.heap.size ≤ k := fun k e => (own_lt h.own k e).1
  refine ⟨by unfold OInts; simpa using hv', (hr.keep (below_alloc w2 o)).grown hg1 (fun k e => by have := hb k e; omega), ?_⟩
  exact gr_trans (gr_alloc (gr_trans h.gr hp (fun x e => by injection e with e; exact .inl e.symm)) o) hg1 (fun k e => .inr (hb k e))
end
end Go.Proofs.Yticldaddbljleaa
