/- What a model of a signature is (plain), the values of terms in it, where an equation fails, models along maps, pairs. No walk. -/
import Derived.Test.YteccjnnhihbdhaaModM
namespace Go.Proofs.Yteccjnnhihbdhaa
open Go.RowKit
theorem List.mem_of_mem_dropLast' {x : Int} {l : List Int} (h : x ∈ l.dropLast) : x ∈ l := List.dropLast_subset l h
set_option linter.unusedVariables false
set_option linter.unusedSimpArgs false

theorem sizes_led {sizes row : List Int} (hz : Sizes sizes) (hin : ∀ x ∈ row, 0 ≤ x ∧ x < 100 ∧ x < (sizes.length : Int)) : Sizes (ledM sizes row) := by
  intro z hzm
  unfold ledM at hzm
  obtain ⟨x, hx, rfl⟩ := List.mem_map.1 hzm
  obtain ⟨h0, h1, h2⟩ := hin x hx
  rw [if_pos h1, getD_at _ (show x.toNat < sizes.length by omega)]
  exact hz _ (List.getElem_mem _)
def tableB (sizes row table : List Int) : Bool := decide ((table.length : Int) = waysM (ledM sizes row.dropLast)) && belowB table (sizes.getD (row.getLastD (-1)).toNat 0)
def tabB (s : MSig) (m : MModel) (k : Nat) : Bool := tableB m.sizes (s.ops.getD k []) (m.tables.getD k [])
def allTab (s : MSig) (m : MModel) (n : Nat) : Bool := (List.range n).all (tabB s m)
theorem allTab_zero (s : MSig) (m : MModel) : allTab s m 0 = true := rfl
theorem allTab_succ (s : MSig) (m : MModel) (n : Nat) : allTab s m (n + 1) = (allTab s m n && tabB s m n) := by
  unfold allTab; rw [List.range_succ, List.all_append]; simp
theorem allTab_bad {s : MSig} {m : MModel} {k n : Nat} (hk : k < n) (h : tabB s m k = false) : allTab s m n = false := by
  unfold allTab; rw [List.all_eq_false]; exact ⟨k, List.mem_range.2 hk, by simp [h]⟩
def sizesB (zs : List Int) : Bool := zs.all fun z => inB z 1 3
theorem sizesB_iff {zs : List Int} : sizesB zs = true ↔ Sizes zs := by unfold sizesB Sizes inB; simp
theorem sizesB_bad {zs : List Int} {k : Nat} (hk : k < zs.length) (h : inB zs[k] 1 3 = false) : sizesB zs = false := all_bad hk h
def modelB (s : MSig) (m : MModel) : Bool := (((validB s && decide ((m.sizes.length : Int) = s.sorts)) && decide (m.tables.length = s.ops.length)) && sizesB m.sizes) && allTab s m m.tables.length
theorem model_no1 {s : MSig} {m : MModel} (h : validB s = false) : modelB s m = false := by unfold modelB; simp [h]
theorem model_no2 {s : MSig} {m : MModel} (h : ¬ (m.sizes.length : Int) = s.sorts) : modelB s m = false := by unfold modelB; simp [h]
theorem model_no3 {s : MSig} {m : MModel} (h : ¬ m.tables.length = s.ops.length) : modelB s m = false := by unfold modelB; simp [h]
theorem model_no4 {s : MSig} {m : MModel} (h : sizesB m.sizes = false) : modelB s m = false := by unfold modelB; simp [h]
theorem model_no5 {s : MSig} {m : MModel} {k : Nat} (hk : k < m.tables.length) (h : tabB s m k = false) : modelB s m = false := by unfold modelB; simp [allTab_bad hk h]
theorem model_yes {s : MSig} {m : MModel} (h1 : validB s = true) (h2 : (m.sizes.length : Int) = s.sorts) (h3 : m.tables.length = s.ops.length) (h4 : sizesB m.sizes = true) (h5 : allTab s m m.tables.length = true) : modelB s m = true := by
  unfold modelB; simp only [h1, h2, h3, h4, decide_true, Bool.true_and]; rw [← h3]; exact h5
structure ModFacts (s : MSig) (m : MModel) : Prop where
  va : validB s = true
  sl : (m.sizes.length : Int) = s.sorts
  tl : m.tables.length = s.ops.length
  sz : Sizes m.sizes
  tb : ∀ k, k < s.ops.length → tableB m.sizes (opRow s k) (m.tables.getD k []) = true
theorem model_facts {s : MSig} {m : MModel} (h : modelB s m = true) : ModFacts s m := by
  unfold modelB at h
  simp only [Bool.and_eq_true, decide_eq_true_eq] at h
  obtain ⟨⟨⟨⟨h1, h2⟩, h3⟩, h4⟩, h5⟩ := h
  refine ⟨h1, h2, h3, sizesB_iff.1 h4, fun k hk => ?_⟩
  unfold allTab at h5
  rw [List.all_eq_true] at h5
  exact h5 k (List.mem_range.2 (by omega))
theorem facts_model {s : MSig} {m : MModel} (h : ModFacts s m) : modelB s m = true :=
  model_yes h.va h.sl h.tl (sizesB_iff.2 h.sz) (by
    unfold allTab
    rw [List.all_eq_true]
    exact fun k hk => h.tb k (by have := List.mem_range.1 hk; have := h.tl; omega))
/-- the sizes of what an operation takes -/
def takenM (s : MSig) (m : MModel) (k : Nat) : List Int := ledM m.sizes (opRow s k).dropLast
section
variable {s : MSig} {m : MModel}
theorem ModFacts.sorts (h : ModFacts s m) : m.sizes.length ≤ 3 ∧ 1 ≤ m.sizes.length := by have := valid_sorts h.va; have := h.sl; omega
theorem ModFacts.size (h : ModFacts s m) {x : Int} (h0 : 0 ≤ x) (h1 : x < s.sorts) : ∃ hx : x.toNat < m.sizes.length, m.sizes.getD x.toNat 0 = m.sizes[x.toNat] ∧ 1 ≤ m.sizes[x.toNat] ∧ m.sizes[x.toNat] ≤ 3 := by
  have := h.sl
  have hx : x.toNat < m.sizes.length := by omega
  exact ⟨hx, getD_at _ hx, h.sz _ (List.getElem_mem _)⟩
theorem ModFacts.led (h : ModFacts s m) {row : List Int} (hr : ∀ x ∈ row, 0 ≤ x ∧ x < s.sorts) : Sizes (ledM m.sizes row) := by
  have h1 := valid_sorts h.va
  have h2 := h.sl
  exact sizes_led h.sz fun x hx => by have := hr x hx; omega
theorem ModFacts.into (h : ModFacts s m) {row : List Int} (hr : ∀ x ∈ row, 0 ≤ x ∧ x < s.sorts) : InTo m.sizes row := fun x hx _ => by have := hr x hx; have := h.sl; omega
theorem ModFacts.taken (h : ModFacts s m) {k : Nat} (hk : k < s.ops.length) : Sizes (takenM s m k) ∧ (takenM s m k).length ≤ 2 := by
  obtain ⟨h1, h2, h3⟩ := opRow_valid h.va hk
  refine ⟨h.led fun x hx => h3 x (List.mem_of_mem_dropLast' hx), ?_⟩
  unfold takenM; rw [ledM_len, List.length_dropLast]; omega
theorem ModFacts.table (h : ModFacts s m) {k : Nat} (hk : k < s.ops.length) : ∃ hk' : k < m.tables.length, m.tables.getD k [] = m.tables[k] ∧ (m.tables[k].length : Int) = waysM (takenM s m k) ∧ ∀ x ∈ m.tables[k], 0 ≤ x ∧ x < m.sizes.getD ((opRow s k).getLastD (-1)).toNat 0 := by
  have hk' : k < m.tables.length := by rw [h.tl]; exact hk
  have := h.tb k hk
  rw [getD_at _ hk'] at this
  unfold tableB belowB at this
  simp only [Bool.and_eq_true, decide_eq_true_eq, List.all_eq_true] at this
  exact ⟨hk', getD_at _ hk', this.1, this.2⟩
end

/-! values of terms -/
def sizesT (m : MModel) (ts : List Tm) : List Int := ts.map fun t => m.sizes.getD t.sort.toNat 0
mutual
def valT (m : MModel) (vals : List Int) : Tm → Int
  | .leaf k _ => vals.getD k 0
  | .node op _ ts => (m.tables.getD op []).getD (placeM 0 (sizesT m ts) (valTs m vals ts)).toNat 0
def valTs (m : MModel) (vals : List Int) : List Tm → List Int
  | [] => []
  | t :: ts => valT m vals t :: valTs m vals ts
end
theorem valTs_map (m : MModel) (vals : List Int) : ∀ ts, valTs m vals ts = ts.map (valT m vals)
  | [] => by simp [valTs]
  | t :: ts => by simp [valTs, valTs_map m vals ts]
theorem valTs_len (m : MModel) (vals : List Int) (ts : List Tm) : (valTs m vals ts).length = ts.length := by rw [valTs_map]; simp
theorem sizesT_len (m : MModel) (ts : List Tm) : (sizesT m ts).length = ts.length := by simp [sizesT]
theorem valT_node (m : MModel) (vals : List Int) (op : Nat) (lv : Int) (ts : List Tm) : valT m vals (.node op lv ts) = (m.tables.getD op []).getD (placeM 0 (sizesT m ts) (valTs m vals ts)).toNat 0 := by simp [valT]
theorem wfTs_sorts {s : MSig} {vars : List Int} : ∀ {ss : List Int} {ts : List Tm}, wfTs s vars ss ts → ss = ts.map Tm.sort
  | ss, [], h => by unfold wfTs at h; simp [h]
  | ss, t :: ts, h => by
    unfold wfTs at h
    obtain ⟨x, ss', rfl, rfl, -, h2⟩ := h
    simp [wfTs_sorts h2]
/-- the sizes of the terms that an operation takes are those of its row -/
theorem sizesT_taken {s : MSig} {m : MModel} {vars : List Int} (h : ModFacts s m) {op : Nat} {lv : Int} {ts : List Tm} (hw : wfT s vars (.node op lv ts)) : sizesT m ts = takenM s m op := by
  unfold wfT at hw
  obtain ⟨hk, -, hts⟩ := hw
  have hs := wfTs_sorts hts
  unfold takenM ledM
  rw [hs, List.map_map]
  unfold sizesT
  refine List.map_congr_left fun t ht => ?_
  have hm : t.sort ∈ (opRow s op).dropLast := by rw [hs]; exact List.mem_map_of_mem ht
  have := (opRow_valid h.va hk).2.2 _ (List.mem_of_mem_dropLast' hm)
  have h3 := valid_sorts h.va
  show m.sizes.getD t.sort.toNat 0 = if t.sort < 100 then m.sizes.getD t.sort.toNat 0 else t.sort
  rw [if_pos (by omega)]
/-- values of letters -/
def ValsOk (m : MModel) (vars vals : List Int) : Prop := vals.length = vars.length ∧ ∀ (k : Nat) (h : k < vars.length) (h' : k < vals.length), 0 ≤ vals[k] ∧ vals[k] < m.sizes.getD (vars[k]).toNat 0
mutual
theorem valT_in {s : MSig} {m : MModel} {vars vals : List Int} (h : ModFacts s m) (hv : ValsOk m vars vals) : ∀ tm : Tm, wfT s vars tm → 0 ≤ valT m vals tm ∧ valT m vals tm < m.sizes.getD tm.sort.toNat 0
  | .leaf k of, hw => by
    unfold wfT at hw
    obtain ⟨hk, rfl⟩ := hw
    have hk' : k < vals.length := by rw [hv.1]; exact hk
    simp only [valT, Tm.sort]
    rw [getD_at _ hk', getD_at _ hk]
    exact hv.2 k hk hk'
  | .node op lv ts, hw => by
    have hw0 := hw
    unfold wfT at hw
    obtain ⟨hk, rfl, hts⟩ := hw
    have hin := valTs_in h hv ts _ hts
    rw [valT_node]
    obtain ⟨hk', e, hl, hx⟩ := h.table hk
    obtain ⟨p0, p1⟩ := place_in (zs := sizesT m ts) (by rw [sizesT_taken h hw0]; exact (h.taken hk).1) hin
    rw [sizesT_taken h hw0, ← hl] at p1
    rw [sizesT_taken h hw0] at p0
    rw [sizesT_taken h hw0]
    rw [e, getD_at _ (show (placeM 0 (takenM s m op) (valTs m vals ts)).toNat < m.tables[op].length by omega)]
    exact hx _ (List.getElem_mem _)
theorem valTs_in {s : MSig} {m : MModel} {vars vals : List Int} (h : ModFacts s m) (hv : ValsOk m vars vals) : ∀ (ts : List Tm) (ss : List Int), wfTs s vars ss ts → InAll (sizesT m ts) (valTs m vals ts)
  | [], ss, hw => by unfold sizesT valTs; exact InAll.nil
  | t :: ts, ss, hw => by
    unfold wfTs at hw
    obtain ⟨x, ss', rfl, rfl, h1, h2⟩ := hw
    have := valTs_in h hv ts _ h2
    unfold valTs
    exact InAll.cons (valT_in h hv t h1) this
end
theorem place_table {s : MSig} {m : MModel} {vars vals : List Int} (h : ModFacts s m) (hv : ValsOk m vars vals) {op : Nat} {lv : Int} {ts : List Tm} (hw : wfT s vars (.node op lv ts)) :
    ∃ (n : Nat) (hk : op < m.tables.length) (hn : n < m.tables[op].length), placeM 0 (sizesT m ts) (valTs m vals ts) = (n : Int) ∧ valT m vals (.node op lv ts) = m.tables[op][n] := by
  have hw0 := hw
  unfold wfT at hw
  obtain ⟨hk, rfl, hts⟩ := hw
  have hin := valTs_in h hv ts _ hts
  obtain ⟨hk', e, hl, hx⟩ := h.table hk
  obtain ⟨p0, p1⟩ := place_in (zs := sizesT m ts) (by rw [sizesT_taken h hw0]; exact (h.taken hk).1) hin
  rw [sizesT_taken h hw0, ← hl] at p1
  rw [sizesT_taken h hw0] at p0
  rw [valT_node, e]
  rw [sizesT_taken h hw0]
  exact ⟨(placeM 0 (takenM s m op) (valTs m vals ts)).toNat, hk', by omega, by omega, getD_at _ _⟩
def valsB (s : MSig) (m : MModel) (vars vals : List Int) : Bool := ((varsB s vars && modelB s m) && decide (vals.length = vars.length)) && (List.range vals.length).all fun k => decide (0 ≤ vals.getD k 0) && decide (vals.getD k 0 < m.sizes.getD (vars.getD k 0).toNat 0)
def valOkAt (m : MModel) (vars vals : List Int) (k : Nat) : Bool := decide (0 ≤ vals.getD k 0) && decide (vals.getD k 0 < m.sizes.getD (vars.getD k 0).toNat 0)
def allVal (m : MModel) (vars vals : List Int) (n : Nat) : Bool := (List.range n).all (valOkAt m vars vals)
theorem allVal_zero (m : MModel) (vars vals : List Int) : allVal m vars vals 0 = true := rfl
theorem allVal_succ (m : MModel) (vars vals : List Int) (n : Nat) : allVal m vars vals (n + 1) = (allVal m vars vals n && valOkAt m vars vals n) := by
  unfold allVal; rw [List.range_succ, List.all_append]; simp
theorem allVal_bad {m : MModel} {vars vals : List Int} {k n : Nat} (hk : k < n) (h : valOkAt m vars vals k = false) : allVal m vars vals n = false := by
  unfold allVal; rw [List.all_eq_false]; exact ⟨k, List.mem_range.2 hk, by simp [h]⟩
theorem valsB_eq (s : MSig) (m : MModel) (vars vals : List Int) : valsB s m vars vals = (((varsB s vars && modelB s m) && decide (vals.length = vars.length)) && allVal m vars vals vals.length) := rfl
theorem vals_no1 {s : MSig} {m : MModel} {vars vals : List Int} (h : varsB s vars = false) : valsB s m vars vals = false := by rw [valsB_eq]; simp [h]
theorem vals_no2 {s : MSig} {m : MModel} {vars vals : List Int} (h : modelB s m = false) : valsB s m vars vals = false := by rw [valsB_eq]; simp [h]
theorem vals_no3 {s : MSig} {m : MModel} {vars vals : List Int} (h : ¬ vals.length = vars.length) : valsB s m vars vals = false := by rw [valsB_eq]; simp [h]
theorem vals_no4 {s : MSig} {m : MModel} {vars vals : List Int} {k : Nat} (hk : k < vals.length) (h : valOkAt m vars vals k = false) : valsB s m vars vals = false := by rw [valsB_eq]; simp [allVal_bad hk h]
theorem vals_yes {s : MSig} {m : MModel} {vars vals : List Int} (h1 : varsB s vars = true) (h2 : modelB s m = true) (h3 : vals.length = vars.length) (h4 : allVal m vars vals vals.length = true) : valsB s m vars vals = true := by
  rw [valsB_eq]; simp only [h1, h2, h3, decide_true, Bool.true_and]; rw [← h3]; exact h4
theorem vals_facts {s : MSig} {m : MModel} {vars vals : List Int} (h : valsB s m vars vals = true) : varsB s vars = true ∧ modelB s m = true ∧ ValsOk m vars vals := by
  rw [valsB_eq] at h
  simp only [Bool.and_eq_true, decide_eq_true_eq] at h
  obtain ⟨⟨⟨h1, h2⟩, h3⟩, h4⟩ := h
  refine ⟨h1, h2, h3, fun k hk hk' => ?_⟩
  unfold allVal at h4
  rw [List.all_eq_true] at h4
  have := h4 k (List.mem_range.2 hk')
  unfold valOkAt at this
  rw [getD_at _ hk', getD_at _ hk] at this
  simpa using this
def valueM (s : MSig) (m : MModel) (vars t vals : List Int) : Int :=
  match termM s vars t with
  | some tm => if valsB s m vars vals then valT m vals tm else -1
  | none => -1
/-- the numbers of the row of values are those of the letters -/
theorem dig_vals {s : MSig} {m : MModel} {vars : List Int} (h : ModFacts s m) (hv : varsB s vars = true) (n : Int) : ValsOk m vars (digM (ledM m.sizes vars) n) := by
  obtain ⟨-, -, h3⟩ := vars_valid hv
  have hz : Sizes (ledM m.sizes vars) := h.led fun x hx => by obtain ⟨k, hk, rfl⟩ := List.getElem_of_mem hx; exact h3 k hk
  obtain ⟨h1, h2⟩ := dig_in hz n
  rw [ledM_len] at h1
  refine ⟨h1, fun k hk hk' => ?_⟩
  have hl : k < (ledM m.sizes vars).length := by rw [ledM_len]; exact hk
  have := h2 k hl hk'
  have e := ledM_at (to := m.sizes) hk
  rw [List.getElem?_eq_getElem hl] at e
  have hx := h3 k hk
  have hvs := valid_sorts h.va
  rw [if_pos (by omega)] at e
  injection e with e
  rw [e] at this
  exact this

/-! where an equation fails -/
def failAt (m : MModel) (zs : List Int) (l r : Tm) (n : Nat) : Bool := valT m (digM zs n) l != valT m (digM zs n) r
/-- from the number n on -/
def failFrom (m : MModel) (zs : List Int) (l r : Tm) : Nat → Nat → Option (List Int)
  | 0, _ => none
  | f + 1, n => if failAt m zs l r n then some (digM zs n) else failFrom m zs l r f (n + 1)
def failRow (m : MModel) (zs : List Int) (l r : Tm) : Option (List Int) := failFrom m zs l r (waysM zs).toNat 0
theorem failFrom_step {m : MModel} {zs : List Int} {l r : Tm} {f n : Nat} (h : failAt m zs l r n = false) : failFrom m zs l r (f + 1) n = failFrom m zs l r f (n + 1) := by
  simp [failFrom, h]
theorem failFrom_hit {m : MModel} {zs : List Int} {l r : Tm} {f n : Nat} (h : failAt m zs l r n = true) : failFrom m zs l r (f + 1) n = some (digM zs n) := by
  simp [failFrom, h]
def failsM (s : MSig) (m : MModel) (e : MEq) : List Int × Bool :=
  if eqOkB s e && modelB s m then
    match termM s e.vars e.left, termM s e.vars e.right with
    | some l, some r =>
      match failRow m (ledM m.sizes e.vars) l r with
      | some row => (row, true)
      | none => ([], false)
    | _, _ => ([], false)
  else ([], false)
def holdsB (s : MSig) (m : MModel) (e : MEq) : Bool := (eqOkB s e && modelB s m) && !(failsM s m e).2
def isModelB (t : MThy) (m : MModel) : Bool := (thyB t && modelB t.over m) && t.eqs.all (holdsB t.over m)

/-! along a map; pairs -/
def modBackM (a b : MSig) (f : MMap) (m : MModel) : MModel :=
  if mapOkB a b f && modelB b m then ⟨ledM m.sizes f.sorts, f.ops.map fun o => m.tables.getD o.toNat []⟩ else ⟨[], []⟩
def timesM (xs ys : List Int) : List Int := List.zipWith (· * ·) xs ys
end Go.Proofs.Yteccjnnhihbdhaa
