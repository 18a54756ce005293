/- Terms as trees, and how rows of numbers read as terms. No walk. -/
import Derived.Test.YteccjnnhihbdhabBase
namespace Go.Proofs.Yteccjnnhihbdhab
open Go.RowKit
set_option linter.unusedVariables false

inductive Tm where
  | leaf (k : Nat) (of : Int)
  | node (op : Nat) (lv : Int) (ts : List Tm)

def Tm.sort : Tm → Int
  | .leaf _ of => of
  | .node _ lv _ => lv

mutual
def Tm.row : Tm → List Int
  | .leaf k _ => [100 + (k : Int)]
  | .node op _ ts => (op : Int) :: rowsOf ts
def rowsOf : List Tm → List Int
  | [] => []
  | t :: ts => t.row ++ rowsOf ts
end

def opRow (s : MSig) (n : Nat) : List Int := s.ops.getD n []

mutual
def wfT (s : MSig) (vars : List Int) : Tm → Prop
  | .leaf k of => k < vars.length ∧ of = vars.getD k 0
  | .node op lv ts => op < s.ops.length ∧ lv = (opRow s op).getLastD (-1) ∧ wfTs s vars (opRow s op).dropLast ts
def wfTs (s : MSig) (vars : List Int) : List Int → List Tm → Prop
  | ss, [] => ss = []
  | ss, t :: ts => ∃ x ss', ss = x :: ss' ∧ t.sort = x ∧ wfT s vars t ∧ wfTs s vars ss' ts
end

def argsM (p : List Int → Option (Tm × List Int)) : List Int → List Int → Option (List Tm × List Int)
  | [], r => some ([], r)
  | x :: ss, r =>
    match p r with
    | none => none
    | some (t, b) =>
      if t.sort = x then
        match argsM p ss b with
        | none => none
        | some (ts, b') => some (t :: ts, b')
      else none

def firstM (s : MSig) (vars : List Int) : Nat → List Int → Option (Tm × List Int)
  | 0, _ => none
  | _ + 1, [] => none
  | f + 1, n :: rest =>
    if 0 ≤ n ∧ n < s.ops.length then
      match argsM (firstM s vars f) (opRow s n.toNat).dropLast rest with
      | none => none
      | some (ts, b) => some (.node n.toNat ((opRow s n.toNat).getLastD (-1)) ts, b)
    else if 100 ≤ n ∧ n < 100 + vars.length then some (.leaf (n - 100).toNat (vars.getD (n - 100).toNat 0), rest)
    else none

/-- one more argument, at the end -/
theorem argsM_snoc (p : List Int → Option (Tm × List Int)) (ss : List Int) (x : Int) (r : List Int) :
    argsM p (ss ++ [x]) r = match argsM p ss r with
      | none => none
      | some (ts, b) => match p b with
        | none => none
        | some (t, b') => if t.sort = x then some (ts ++ [t], b') else none := by
  induction ss generalizing r with
  | nil =>
    simp only [List.nil_append, argsM]
  | cons y ss ih =>
    simp only [List.cons_append, argsM]
    cases hp : p r with
    | none => rfl
    | some q =>
      obtain ⟨t, b⟩ := q
      simp only
      by_cases h : t.sort = y
      · rw [if_pos h, if_pos h, ih]
        cases ha : argsM p ss b with
        | none => rfl
        | some q =>
          obtain ⟨ts, b1⟩ := q
          simp only
          cases hq : p b1 with
          | none => rfl
          | some q =>
            obtain ⟨t', b2⟩ := q
            simp only
            by_cases h' : t'.sort = x
            · rw [if_pos h', if_pos h']; rfl
            · rw [if_neg h', if_neg h']
      · rw [if_neg h, if_neg h]
theorem argsM_none (p : List Int → Option (Tm × List Int)) (ss ss' : List Int) (r : List Int) (h : argsM p ss r = none) : argsM p (ss ++ ss') r = none := by
  induction ss generalizing r with
  | nil => cases h
  | cons y ss ih =>
    simp only [List.cons_append, argsM] at h ⊢
    cases hp : p r with
    | none => rfl
    | some q =>
      obtain ⟨t, b⟩ := q
      rw [hp] at h
      simp only at h ⊢
      by_cases ht : t.sort = y
      · rw [if_pos ht] at h ⊢
        cases ha : argsM p ss b with
        | none => rw [ih b ha]
        | some q => obtain ⟨ts, b'⟩ := q; rw [ha] at h; cases h
      · rw [if_neg ht]
theorem argsM_take_none {p : List Int → Option (Tm × List Int)} {ss r : List Int} {k : Nat} (h : argsM p (ss.take k) r = none) : argsM p ss r = none := by
  have := argsM_none p (ss.take k) (ss.drop k) r h
  rwa [List.take_append_drop] at this
theorem argsM_step {p : List Int → Option (Tm × List Int)} {ss r : List Int} {k : Nat} (hk : k < ss.length) {ts : List Tm} {b : List Int} (h : argsM p (ss.take k) r = some (ts, b)) :
    argsM p (ss.take (k + 1)) r = match p b with
        | none => none
        | some (t, b') => if t.sort = ss[k] then some (ts ++ [t], b') else none := by
  rw [List.take_succ_eq_append_getElem hk, argsM_snoc, h]

/-! what is read is the row of the tree, and the tree is one of the signature -/
theorem argsM_sound {s : MSig} {vars : List Int} {p : List Int → Option (Tm × List Int)} (hp : ∀ r tm b, p r = some (tm, b) → r = tm.row ++ b ∧ wfT s vars tm) :
    ∀ (ss r : List Int) (ts : List Tm) (b : List Int), argsM p ss r = some (ts, b) → r = rowsOf ts ++ b ∧ wfTs s vars ss ts := by
  intro ss
  induction ss with
  | nil =>
    intro r ts b h
    simp only [argsM] at h
    cases h
    exact ⟨by simp [rowsOf], by unfold wfTs; rfl⟩
  | cons x ss ih =>
    intro r ts b h
    simp only [argsM] at h
    cases hpr : p r with
    | none => rw [hpr] at h; cases h
    | some q =>
      obtain ⟨t, b1⟩ := q
      rw [hpr] at h
      simp only at h
      by_cases ht : t.sort = x
      · rw [if_pos ht] at h
        cases ha : argsM p ss b1 with
        | none => rw [ha] at h; cases h
        | some q =>
          obtain ⟨ts1, b2⟩ := q
          rw [ha] at h
          simp only at h
          cases h
          obtain ⟨h1, h2⟩ := hp r t b1 hpr
          obtain ⟨h3, h4⟩ := ih b1 ts1 _ ha
          refine ⟨by rw [h1, h3]; simp [rowsOf], ?_⟩
          unfold wfTs
          exact ⟨x, ss, rfl, ht, h2, h4⟩
      · rw [if_neg ht] at h; cases h
theorem firstM_sound {s : MSig} {vars : List Int} : ∀ (f : Nat) (r : List Int) (tm : Tm) (b : List Int), firstM s vars f r = some (tm, b) → r = tm.row ++ b ∧ wfT s vars tm := by
  intro f
  induction f with
  | zero => intro r tm b h; simp [firstM] at h
  | succ f ih =>
    intro r tm b h
    cases r with
    | nil => simp [firstM] at h
    | cons n rest =>
      simp only [firstM] at h
      by_cases h1 : 0 ≤ n ∧ n < s.ops.length
      · rw [if_pos h1] at h
        cases ha : argsM (firstM s vars f) (opRow s n.toNat).dropLast rest with
        | none => rw [ha] at h; cases h
        | some q =>
          obtain ⟨ts, b1⟩ := q
          rw [ha] at h
          simp only at h
          cases h
          obtain ⟨h3, h4⟩ := argsM_sound ih _ _ _ _ ha
          refine ⟨?_, ?_⟩
          · unfold Tm.row
            rw [h3, Int.toNat_of_nonneg h1.1]; rfl
          · unfold wfT
            exact ⟨by omega, rfl, h4⟩
      · rw [if_neg h1] at h
        by_cases h2 : 100 ≤ n ∧ n < 100 + vars.length
        · rw [if_pos h2] at h
          cases h
          refine ⟨?_, ?_⟩
          · unfold Tm.row
            rw [show (100 : Int) + ((n - 100).toNat : Int) = n by omega]; rfl
          · unfold wfT
            exact ⟨by omega, rfl⟩
        · rw [if_neg h2] at h; cases h

theorem row_pos : ∀ t : Tm, 1 ≤ t.row.length
  | .leaf k of => by simp [Tm.row]
  | .node op lv ts => by simp [Tm.row]

mutual
theorem firstM_full {s : MSig} {vars : List Int} (hs : s.ops.length ≤ 100) : ∀ (tm : Tm) (f : Nat) (b : List Int), wfT s vars tm → tm.row.length ≤ f → firstM s vars f (tm.row ++ b) = some (tm, b)
  | .leaf k of, f, b, hw, hf => by
    unfold wfT at hw
    obtain ⟨f, rfl⟩ : ∃ g, f = g + 1 := ⟨f - 1, by simp [Tm.row] at hf; omega⟩
    simp only [Tm.row, List.cons_append, List.nil_append, firstM]
    rw [if_neg (by omega), if_pos (by omega), show ((100 : Int) + (k : Int) - 100).toNat = k by omega, hw.2]
  | .node op lv ts, f, b, hw, hf => by
    unfold wfT at hw
    obtain ⟨f, rfl⟩ : ∃ g, f = g + 1 := ⟨f - 1, by simp [Tm.row] at hf; omega⟩
    simp only [Tm.row, List.length_cons] at hf
    simp only [Tm.row, List.cons_append, firstM]
    rw [if_pos (by omega), Int.toNat_natCast, argsM_full hs ts f b _ hw.2.2 (by omega)]
    rw [hw.2.1]
theorem argsM_full {s : MSig} {vars : List Int} (hs : s.ops.length ≤ 100) : ∀ (ts : List Tm) (f : Nat) (b ss : List Int), wfTs s vars ss ts → (rowsOf ts).length ≤ f → argsM (firstM s vars f) ss (rowsOf ts ++ b) = some (ts, b)
  | [], f, b, ss, hw, hf => by
    unfold wfTs at hw
    subst hw
    simp [argsM, rowsOf]
  | t :: ts, f, b, ss, hw, hf => by
    unfold wfTs at hw
    obtain ⟨x, ss', rfl, h1, h2, h3⟩ := hw
    simp only [rowsOf, List.length_append] at hf
    simp only [rowsOf, List.append_assoc, argsM]
    rw [firstM_full hs t f _ h2 (by omega)]
    simp only
    rw [if_pos h1, argsM_full hs ts f b ss' h3 (by omega)]
end
end Go.Proofs.Yteccjnnhihbdhab
