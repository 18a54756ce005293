/- The draws that the laws call. -/
import Derived.Test.YteccjnnhihbdhabDraw3
import Derived.Deep.RegionHeld3
namespace Go.Proofs.Yteccjnnhihbdhab
open Go.RowKit
set_option linter.unusedVariables false

theorem below_of_gr {w w' : World} {g : Nat} (h : w.grownBy w' (some g)) (hg : w.heap.size ≤ g) : Below w.heap.size w w' :=
  ⟨h.os, h.tape, h.output, h.size, fun k hk => h.block k hk (fun e => by injection e with e; omega)⟩

theorem below_of_gr' {w w' : World} {g B : Nat} (h : w.grownBy w' (some g)) (hg : B ≤ g) (hB : B ≤ w.heap.size := by omega) : Below B w w' :=
  ⟨h.os, h.tape, h.output, h.size, fun k hk => h.block k (by omega) (fun e => by injection e with e; omega)⟩
theorem gr_drew {w w' : World} {row : Option Nat} (h : w.drew.grownBy w' row) : w.grownBy w' row := ⟨h.os, h.tape, h.output, h.size, h.block⟩
def DrawPost (w : World) (e : Ending) (w' : World) : Prop :=
  ∃ (v : Value) (s : MSig), e = .returned v ∧ OSig w' w.heap.size v s ∧ s.ops.length ≤ 5 ∧ Below w.heap.size w w'

def OpOfPost (g p : Nat) (w : World) (e : Ending) (w' : World) : Prop :=
  ∃ (v : Value) (s : MSig) (q : Nat) (op : Int), e = .returned (.tuple #[v, .int .i64 op]) ∧ OSig w' w.heap.size v s ∧ s.ops.length ≤ 5 ∧ RRd w' g q ∧ q ≤ p + 40 ∧ w.grownBy w' (some g)

/-- bytes that came in, behind new blocks of the call's own -/
theorem bytes_alloc {w w' : World} {v : Value} {bs : List Int} (h : RBytes w w.heap.size v bs) (hb : Below w.heap.size w w') : RBytes w' w'.heap.size v bs := by
  have hs := hb.size
  obtain ⟨A, c, e, h1, h2, h3⟩ := h
  exact ⟨A, c, e, h1, h2, fun j x hj => by obtain ⟨l, u, b, o, e, hM, hc⟩ := h3 j x hj; exact ⟨l, u, b, o, e, by omega, cell_keep hb hc⟩⟩

/-- the result cells, written at the end of a draw -/
theorem res_done {w w2 : World} {b B : Nat} {sorts : Int} {u : Value} {rows : List (List Int)} (hres : w2.heap[b]? = some (.cells #[.int .i64 0, .slice none 0 0] 35 (0, 0))) (ho : ORows w2 B u rows) (hB : b < B) (hb : Below w.heap.size w w2) (hw : w.heap.size ≤ b) :
    let w3 := (w2.setCell ⟨b, 0, none⟩ (.int .i64 sorts)).setCell ⟨b, 1, none⟩ u
    w3.heap[b]? = some (.cells #[.int .i64 sorts, u] 35 (0, 0)) ∧ ORows w3 B u rows ∧ Below w.heap.size w w3 := by
  intro w3
  exact ⟨block_set (block_set hres 0 _) 1 u, (ho.setLow hB _ _).setLow hB _ _, (hb.setCell hw _).setCell hw _⟩

def DrawOpPost (w : World) (e : Ending) (w' : World) : Prop :=
  ∃ (v : Value) (s : MSig) (op : Int), e = .returned (.tuple #[v, .int .i64 op]) ∧ OSig w' w.heap.size v s ∧ s.ops.length ≤ 5 ∧ Below w.heap.size w w'


end Go.Proofs.Yteccjnnhihbdhab
