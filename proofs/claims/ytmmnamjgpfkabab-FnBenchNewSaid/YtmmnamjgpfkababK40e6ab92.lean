/- The reader of the draws: l20Open, pick, odd. · What the proof of each law on a slice of bytes shares. · The draws of a signature: l20Open, odd, l20SigOf, l20Sig. · l20SigOf: two loops, each appends. · l20Sig: a signature, one in n not valid. · The draws that the laws call. · Equality of rows, of lists of rows, of signatures (package laws). · Models: how they read, how those that a call has made lie; the exact laws' measure, copy and comparison of one. · The plain functions of maps of signatures. No walk. -/
import Derived.Test.YtmmnamjgpfkababKcc9da9c9
import Derived.Laws.BitsAllLaws
import Derived.Laws.BitsLemmas
import Derived.Deep.CutRange
import Derived.ProofKit
import Derived.OpenShut
import Derived.ShutString
import Derived.ChangeOld
import Derived.Deep.RegionHeld3
namespace Go.Proofs.Ytmmnamjgpfkabab
section
open Go.RowKit
set_option linter.unusedVariables false

/-- bytes, in blocks below M -/
def RBytes (w : World) (M : Nat) (v : Value) (xs : List Int) : Prop :=
  ∃ A c, v = .slice A xs.length c ∧ xs.length ≤ c ∧ c ≤ maxLen ∧ ∀ j x, xs[j]? = some x → 0 ≤ x ∧ x ≤ 255 ∧ ∃ b o, A = some ⟨b, o, none⟩ ∧ b < M ∧ w.cell? ⟨b, o + j, none⟩ = some (.int .u8 x)
theorem RBytes.keepBut {w w' : World} {M : Nat} {v : Value} {xs : List Int} (h : RBytes w M v xs) (hk : ∀ b o x, b < M → w.cell? ⟨b, o, none⟩ = some (.int .u8 x) → w'.cell? ⟨b, o, none⟩ = some (.int .u8 x)) : RBytes w' M v xs := by
  obtain ⟨A, c, e, h1, h2, h3⟩ := h
  exact ⟨A, c, e, h1, h2, fun j x hj => by obtain ⟨l, u, b, o, e, hM, hc⟩ := h3 j x hj; exact ⟨l, u, b, o, e, hM, hk _ _ _ hM hc⟩⟩

/-- block g is a reader at place p; its bytes lie in blocks below g -/
def RRd (w : World) (g : Nat) (p : Nat) : Prop :=
  ∃ u bs, w.heap[g]? = some (.cells #[u, .int .i64 p] 125 (0, 0)) ∧ RBytes w g u bs

theorem RRd.cells {w : World} {g p : Nat} {u : Value} (h : w.heap[g]? = some (.cells #[u, .int .i64 p] 125 (0, 0))) :
    w.cell? ⟨g, 0, none⟩ = some u ∧ w.cell? ⟨g, 1, none⟩ = some (.int .i64 p) ∧ w.frozen? ⟨g, 1, none⟩ = false := by
  refine ⟨?_, ?_, ?_⟩ <;> simp [World.cell?, World.frozen?, h]

theorem ofInt_i64 (a : Nat) (ha : a < 9223372036854775808) : (BitVec.ofInt 64 (a : Int)).toNat = a := by
  rw [BitVec.ofInt_natCast, BitVec.toNat_ofNat]; exact Nat.mod_eq_of_lt (by omega)
theorem i64_xor_nat (a b : Nat) (ha : a < 9223372036854775808) (hb : b < 9223372036854775808) : bits .xor .i64 (a : Int) (b : Int) = ((a ^^^ b : Nat) : Int) := by
  have hx : a ^^^ b < 2 ^ 63 := Nat.xor_lt_two_pow (by omega) (by omega)
  show IntKind.i64.wrap ((BitVec.ofInt 64 (a : Int) ^^^ BitVec.ofInt 64 (b : Int)).toNat : Int) = _
  rw [BitVec.toNat_xor, ofInt_i64 a ha, ofInt_i64 b hb, IntKind.wrap_i64]
  omega

theorem after_set {w : World} {g p : Nat} {u : Value} {bs : List Int} (hg : w.heap[g]? = some (.cells #[u, .int .i64 p] 125 (0, 0))) (hbs : RBytes w g u bs) :
    let w2 := w.setCell ⟨g, 1, none⟩ (.int .i64 ((p : Int) + 1))
    w2.heap[g]? = some (.cells #[u, .int .i64 ((p + 1 : Nat) : Int)] 125 (0, 0)) ∧ RBytes w2 g u bs ∧ w.grownBy w2 (some g) := by
  intro w2
  have hg2 : w2.heap[g]? = some (.cells #[u, .int .i64 ((p + 1 : Nat) : Int)] 125 (0, 0)) := by
    show (w.setCell ⟨g, 1, none⟩ _).heap[g]? = _
    simp [World.setCell, Array.getElem?_modify, hg]
  refine ⟨hg2, hbs.keepBut fun b o x hM hc => ?_, ⟨rfl, rfl, rfl, by simp [w2, World.setCell], fun k _ hk => ?_⟩⟩
  · exact (World.cell?_of_block (Below.heap_setCell w ⟨g, 1, none⟩ _ b (by show b ≠ g; omega))).trans hc
  · exact Below.heap_setCell w ⟨g, 1, none⟩ _ k (by rintro rfl; exact hk rfl)

theorem RRd.drewN {w : World} {g p : Nat} (h : RRd w g p) (n : Nat) : RRd (w.drewN n) g p := h
theorem only_drewN {a w : World} {row : Option Nat} (h : a.grownBy w row) (n : Nat) : a.grownBy (w.drewN n) row := ⟨h.os, h.tape, h.output, h.size, h.block⟩

theorem RBytes.at_ {w : World} {M : Nat} {v : Value} {xs : List Int} (h : RBytes w M v xs) {k : Nat} (hk : k < xs.length) :
    ∃ b o c, v = .slice (some ⟨b, o, none⟩) xs.length c ∧ 0 ≤ xs[k] ∧ xs[k] ≤ 255 ∧ w.cell? ⟨b, o + k, none⟩ = some (.int .u8 xs[k]) := by
  obtain ⟨A, c, e, h1, h2, h3⟩ := h
  obtain ⟨l, u, b, o, rfl, -, hc⟩ := h3 k xs[k] (List.getElem?_eq_getElem hk)
  exact ⟨b, o, c, e, l, u, hc⟩

theorem pick_bound (y1 y2 p q : Int) (h1 : 0 ≤ y1 ∧ y1 ≤ 255) (h2 : 0 ≤ y2 ∧ y2 ≤ 255) (hp : 0 ≤ p) (hp2 : p ≤ 1000000000) (hq : 0 ≤ q) (hq2 : q ≤ p) :
    0 ≤ wrap64 (y1 * 131 + y2 * 1117 + p * 29 + wrap64 (wrap64 q * 53)) ∧ wrap64 (y1 * 131 + y2 * 1117 + p * 29 + wrap64 (wrap64 q * 53)) ≤ 1000000000000 := by
  rw [IntWalk.wrap64_in q ⟨by omega, by omega⟩, IntWalk.wrap64_in (q * 53) ⟨by omega, by omega⟩, IntWalk.wrap64_in _ ⟨by omega, by omega⟩]
  omega
theorem xor_bound (X : Int) (h0 : 0 ≤ X) (h1 : X ≤ 1000000000000) : ∃ z : Int, 0 ≤ z ∧ bits .xor .i64 X (X / 64) = z := by
  obtain ⟨m, rfl⟩ := Int.eq_ofNat_of_zero_le h0
  refine ⟨((m ^^^ (m / 64) : Nat) : Int), by omega, ?_⟩
  rw [show ((m : Int) / 64) = ((m / 64 : Nat) : Int) by omega]
  exact i64_xor_nat _ _ (by omega) (by omega)

/-- what pick answers -/
def PickPost (g p : Nat) (n : Int) (w : World) (e : Ending) (w' : World) : Prop :=
  ∃ x : Int, e = .returned (.int .i64 x) ∧ ((n < 1 → x = 0) ∧ (1 ≤ n → 0 ≤ x ∧ x < n)) ∧ RRd w' g (p + 1) ∧ w.grownBy w' (some g)
theorem pickPost_mod {g p m : Nat} {n z : Int} {w w2 : World} (hn : 1 ≤ n) (hz : 0 ≤ z) (R : RRd w2 g (p + 1)) (G : w.grownBy w2 (some g)) : PickPost g p n w (.returned (.int .i64 (z % n))) (w2.drewN m) :=
  ⟨_, rfl, ⟨fun h => by omega, fun _ => ⟨Int.emod_nonneg _ (by omega), Int.emod_lt_of_pos _ (by omega)⟩⟩, R, only_drewN G m⟩

/-- the world behind 'r.p = r.p + 1', and what is known of it -/
structure Step1 (w w2 : World) (g p : Nat) (A : Option Addr) (c : Nat) (bs : List Int) : Prop where
  c0 : w2.cell? ⟨g, 0, none⟩ = some (.slice A bs.length c)
  rd : RRd w2 g (p + 1)
  grown : w.grownBy w2 (some g)
  bytes : RBytes w2 g (.slice A bs.length c) bs

theorem step1 {w : World} {g p : Nat} (h : RRd w g p) : ∃ A c bs, bs.length ≤ 9223372036854775807 ∧ w.cell? ⟨g, 0, none⟩ = some (.slice A bs.length c) ∧ w.cell? ⟨g, 1, none⟩ = some (.int .i64 p) ∧ w.frozen? ⟨g, 1, none⟩ = false ∧
    Step1 w (w.setCell ⟨g, 1, none⟩ (.int .i64 ((p : Int) + 1))) g p A c bs := by
  obtain ⟨u, bs, hg, hbs⟩ := h
  obtain ⟨f0, f1, f2⟩ := RRd.cells hg
  obtain ⟨hg2, hb2, hgr⟩ := after_set hg hbs
  obtain ⟨e0, e1, e2⟩ := RRd.cells hg2
  have hb2' := hb2
  obtain ⟨A, c, rfl, h1, h2, hb⟩ := hbs
  exact ⟨A, c, bs, by rw [maxLen_eq] at h2; omega, f0, f1, f2, e0, ⟨_, bs, hg2, hb2⟩, hgr, hb2'⟩

set_option maxRecDepth 100000 in
theorem pick_low (g p : Nat) (n : Int) (w : World) (h : RRd w g p) (hp : p ≤ 1000000000) (c1 : n < 1) :
    Calls Try.prog 96 #[.pointer (some ⟨g, 0, none⟩), .int .i64 n] w (PickPost g p n w) := by
  obtain ⟨A, c, bs, hlen, f0, f1, f2, HS0⟩ := step1 h
  have HS := Lib.hid HS0
  clear h HS0
  go_enter Try.func96, Try.ntmps96
  go_wp2
  go_ret
  exact ⟨_, rfl, ⟨fun _ => rfl, fun h => by omega⟩, HS.out.rd, HS.out.grown⟩

set_option maxRecDepth 100000 in
theorem pick_empty (g p : Nat) (n : Int) (w : World) (hp : p ≤ 1000000000) (c1 : 1 ≤ n) {A : Option Addr} {c : Nat} {bs : List Int} (hlen : bs.length ≤ 9223372036854775807)
    (f0 : w.cell? ⟨g, 0, none⟩ = some (.slice A bs.length c)) (f1 : w.cell? ⟨g, 1, none⟩ = some (.int .i64 p)) (f2 : w.frozen? ⟨g, 1, none⟩ = false) (HS : Hid (Step1 w (w.setCell ⟨g, 1, none⟩ (.int .i64 ((p : Int) + 1))) g p A c bs))
    (c4 : (((bs.length : Nat) : Int) == 0) = true) :
    Calls Try.prog 96 #[.pointer (some ⟨g, 0, none⟩), .int .i64 n] w (PickPost g p n w) := by
  go_enter Try.func96, Try.ntmps96
  go_wp2
  go_ret
  exact ⟨_, rfl, ⟨fun _ => rfl, fun h => ⟨Int.le_refl _, by omega⟩⟩, HS.out.rd, HS.out.grown⟩

set_option maxRecDepth 100000 in
theorem pick_in (g p : Nat) (n : Int) (w : World) (hp : p ≤ 1000000000) (c1 : 1 ≤ n) {A : Option Addr} {c : Nat} {bs : List Int} (hlen : bs.length ≤ 9223372036854775807)
    (f0 : w.cell? ⟨g, 0, none⟩ = some (.slice A bs.length c)) (f1 : w.cell? ⟨g, 1, none⟩ = some (.int .i64 p)) (f2 : w.frozen? ⟨g, 1, none⟩ = false) (HS : Hid (Step1 w (w.setCell ⟨g, 1, none⟩ (.int .i64 ((p : Int) + 1))) g p A c bs))
    (c4 : (((bs.length : Nat) : Int) == 0) = false) (c3 : p < bs.length) :
    Calls Try.prog 96 #[.pointer (some ⟨g, 0, none⟩), .int .i64 n] w (PickPost g p n w) := by
  obtain ⟨b, o, c', e, l1, u1, k1⟩ := HS.out.bytes.at_ c3
  cases e
  generalize bs[p] = y1 at l1 u1 k1
  go_enter Try.func96, Try.ntmps96
  go_upto_region 6 with (fail)
  generalize w.setCell ⟨g, 1, none⟩ (.int .i64 ((p : Int) + 1)) = w2 at HS k1 ⊢
  have f3 := HS.out.c0
  go_wp2
  go_ret
  exact pickPost_mod (m := 0) c1 l1 HS.out.rd HS.out.grown

set_option maxHeartbeats 800000 in
set_option maxRecDepth 100000 in
theorem pick_out (g p : Nat) (n : Int) (w : World) (hp : p ≤ 1000000000) (c1 : 1 ≤ n) {A : Option Addr} {c : Nat} {bs : List Int} (hlen : bs.length ≤ 9223372036854775807)
    (f0 : w.cell? ⟨g, 0, none⟩ = some (.slice A bs.length c)) (f1 : w.cell? ⟨g, 1, none⟩ = some (.int .i64 p)) (f2 : w.frozen? ⟨g, 1, none⟩ = false) (HS : Hid (Step1 w (w.setCell ⟨g, 1, none⟩ (.int .i64 ((p : Int) + 1))) g p A c bs))
    (c4 : (((bs.length : Nat) : Int) == 0) = false) (c3 : ¬ p < bs.length) (c2' : 0 < bs.length) :
    Calls Try.prog 96 #[.pointer (some ⟨g, 0, none⟩), .int .i64 n] w (PickPost g p n w) := by
  go_enter Try.func96, Try.ntmps96
  go_wp2
  generalize w.setCell ⟨g, 1, none⟩ (.int .i64 ((p : Int) + 1)) = w2 at HS
  obtain ⟨b, o, c', e, l1, u1, k1⟩ := HS.out.bytes.at_ (k := p % bs.length) (Nat.mod_lt _ c2')
  obtain ⟨b', o', c'', e', l2, u2, k2⟩ := HS.out.bytes.at_ (k := (p * 7 + 3) % bs.length) (Nat.mod_lt _ c2')
  cases e
  cases e'
  generalize bs[p % bs.length]'(Nat.mod_lt _ c2') = y1 at l1 u1 k1
  generalize bs[(p * 7 + 3) % bs.length]'(Nat.mod_lt _ c2') = y2 at l2 u2 k2
  have t0 := HS.out.c0
  have t1 : (p : Int) % (bs.length : Int) = ((p % bs.length : Nat) : Int) := (Int.natCast_emod _ _).symm
  have t2 : IntKind.i64.wrap ((p : Int) * 7) = (p : Int) * 7 := by rw [IntKind.wrap_i64]; omega
  have t3 : IntKind.i64.wrap ((p : Int) * 7 + 3) = (p : Int) * 7 + 3 := by rw [IntKind.wrap_i64]; omega
  have t4 : ((p : Int) * 7 + 3) % (bs.length : Int) = (((p * 7 + 3) % bs.length : Nat) : Int) := by rw [Int.natCast_emod]; rfl
  have t5 : p % bs.length < bs.length := Nat.mod_lt p c2'
  have t6 : (p * 7 + 3) % bs.length < bs.length := Nat.mod_lt (p * 7 + 3) c2'
  generalize p % bs.length = i1 at t1 t5 k1
  generalize (p * 7 + 3) % bs.length = i2 at t4 t6 k2
  have t7 : (i1 : Int) < (bs.length : Int) := by omega
  have t8 : (i2 : Int) < (bs.length : Int) := by omega
  have t9 : (0 : Int) ≤ (p : Int) * 7 + 3 := by omega
  go_quiet (fail)
  clear t0 t1 t2 t3 t4 t5 t6 t7 t8 t9
  have hq1 : 0 ≤ (p : Int) / (bs.length : Int) := Int.ediv_nonneg (by omega) (by omega)
  have hq2 : (p : Int) / (bs.length : Int) ≤ (p : Int) := Int.ediv_le_self _ (by omega)
  have hX := pick_bound y1 y2 (p : Int) ((p : Int) / (bs.length : Int)) ⟨l1, u1⟩ ⟨l2, u2⟩ (by omega) (by omega) hq1 hq2
  generalize wrap64 (y1 * 131 + y2 * 1117 + (p : Int) * 29 + wrap64 (wrap64 ((p : Int) / (bs.length : Int)) * 53)) = X at hX
  obtain ⟨z, hz0, hz⟩ := xor_bound X hX.1 hX.2
  clear hq1 hq2 k1 k2
  go_wp2
  go_ret
  exact pickPost_mod c1 hz0 HS.out.rd HS.out.grown

theorem pick_any (g p : Nat) (n : Int) (w : World) (h : RRd w g p) (hp : p ≤ 1000000000) :
    Calls Try.prog 96 #[.pointer (some ⟨g, 0, none⟩), .int .i64 n] w (PickPost g p n w) := by
  by_cases c1 : n < 1
  · exact pick_low g p n w h hp c1
  · obtain ⟨A, c, bs, hlen, f0, f1, f2, HS⟩ := step1 h
    by_cases c2 : bs.length = 0
    · exact pick_empty g p n w hp (by omega) hlen f0 f1 f2 HS (by rw [beq_iff_eq]; omega)
    · by_cases c3 : p < bs.length
      · exact pick_in g p n w hp (by omega) hlen f0 f1 f2 HS (by rw [beq_eq_false_iff_ne]; omega) c3
      · exact pick_out g p n w hp (by omega) hlen f0 f1 f2 HS (by rw [beq_eq_false_iff_ne]; omega) c3 (by omega)
end

section
open Go.ChangeShapes Go.WideShapes Go.ChangeAt Go.RowKit
set_option linter.unusedVariables false


theorem bytes_nil (w : World) (M : Nat) : RBytes w M (.slice none 0 0) [] := ⟨none, 0, rfl, Nat.le_refl _, Nat.zero_le _, fun j x h => by simp at h⟩
theorem bytes_of {w : World} {x : Addr} {l c : Nat} {zs : List Int} (hl : l ≤ c) (hm : c ≤ maxLen) (hz : zs.length = c) (hcell : ∀ i, i < zs.length → w.cell? (x.add i) = some (.int .u8 (zs.getD i 0))) (hwz : ∀ n ∈ zs, (Lit.int .u8 n).wf = true) :
    RBytes w w.heap.size (.slice (some x) l c) (zs.take l) := by
  have ht : (zs.take l).length = l := by rw [List.length_take]; omega
  refine ⟨some x, c, by rw [ht], by rw [ht]; exact hl, hm, fun j y hj => ?_⟩
  rw [List.getElem?_take] at hj
  split at hj
  · obtain ⟨hjl, rfl⟩ := List.getElem?_eq_some_iff.1 hj
    have hw := hwz _ (List.getElem_mem hjl)
    have hx : 0 ≤ zs[j] ∧ zs[j] ≤ 255 := by simpa [Lit.wf, IntKind.min, IntKind.max, IntKind.signed, IntKind.bits] using hw
    have hc := hcell j hjl
    rw [getD_at _ hjl] at hc
    obtain ⟨b, off, spot⟩ := x
    have h0 := hcell 0 (by omega)
    have hspot : spot = none := by simpa [Addr.add] using World.cell?_spot h0
    subst hspot
    have he : (⟨b, off, none⟩ : Addr).add j = ⟨b, off + j, none⟩ := by
      unfold Addr.add
      split
      · rename_i hj0; subst hj0; rfl
      · rfl
    rw [he] at hc
    exact ⟨hx.1, hx.2, b, off, rfl, World.block_lt_of_cell? w _ hc, hc⟩
  · cases hj
end

section
open Go.RowKit
set_option linter.unusedVariables false

theorem Try.info_int : (Try.prog.info? 3).map (fun i => (i.zero, i.size, i.bytes)) = some (some (.int .i64 0), 1, 8) := by kernel_rfl
theorem Try.info_ints : (Try.prog.info? 55).map (fun i => (i.zero, i.size, i.bytes)) = some (some (.slice none 0 0), 1, 24) := by kernel_rfl

/-! frames: only block g, and what is new, has turned -/
theorem gr_trans {a b c : World} {g : Nat} {row : Option Nat} (h : a.grownBy b (some g)) (k : b.grownBy c row) (hr : ∀ x, row = some x → x = g ∨ a.heap.size ≤ x) : a.grownBy c (some g) :=
  ⟨k.os.trans h.os, k.tape.trans h.tape, k.output.trans h.output, Nat.le_trans h.size k.size, fun i hi hne => (k.block i (Nat.lt_of_lt_of_le hi h.size) (by
    rintro rfl
    rcases hr i rfl with e | e
    · exact hne (by rw [e])
    · omega)).trans (h.block i hi hne)⟩
theorem gr_refl (w : World) (g : Nat) : w.grownBy w (some g) := ⟨rfl, rfl, rfl, Nat.le_refl _, fun _ _ _ => rfl⟩
theorem gr_alloc {a b : World} {g : Nat} (h : a.grownBy b (some g)) (o : Obj) : a.grownBy (b.alloc o) (some g) := gr_trans h (World.grownBy_alloc b o none) (fun x hx => by cases hx)
theorem gr_below {a b c : World} {g : Nat} (h : a.grownBy b (some g)) (k : Below b.heap.size b c) : a.grownBy c (some g) :=
  ⟨k.os.trans h.os, k.tape.trans h.tape, k.output.trans h.output, Nat.le_trans h.size k.size, fun i hi hne => (k.block i (Nat.lt_of_lt_of_le hi h.size)).trans (h.block i hi hne)⟩
theorem gr_setCell {a b : World} {g : Nat} (h : a.grownBy b (some g)) {p : Addr} (hp : p.block = g ∨ a.heap.size ≤ p.block) (u : Value) : a.grownBy (b.setCell p u) (some g) :=
  ⟨h.os, h.tape, h.output, by simpa [World.setCell] using h.size, fun i hi hne => (Below.heap_setCell b p u i (by
    rintro rfl
    rcases hp with e | e
    · exact hne (by rw [e])
    · omega)).trans (h.block i hi hne)⟩
theorem gr_at {a b : World} {g k : Nat} {o : Obj} (h : a.grownBy b (some g)) (hk : k ≠ g) (ho : a.heap[k]? = some o) : b.heap[k]? = some o :=
  (h.block k (Array.getElem?_eq_some_iff.1 ho).1 (fun e => hk (by injection e))).trans ho
/-- the reader itself lies in a block that is there -/
theorem RRd.lt {w : World} {g p : Nat} (h : RRd w g p) : g < w.heap.size := by
  obtain ⟨u, bs, hg, -⟩ := h; exact (Array.getElem?_eq_some_iff.1 hg).1
theorem RRd.keep {w w' : World} {g p : Nat} (h : RRd w g p) (hb : Below w.heap.size w w') : RRd w' g p := by
  have hl := h.lt
  obtain ⟨u, bs, hg, hbs⟩ := h
  exact ⟨u, bs, (hb.block g hl).trans hg, hbs.keepBut fun b o x _ hc => cell_keep hb hc⟩
theorem RRd.grown {w w' : World} {g p : Nat} {row : Option Nat} (h : RRd w g p) (hg : w.grownBy w' row) (hne : ∀ k, row = some k → g < k) : RRd w' g p := by
  have hl := h.lt
  obtain ⟨u, bs, hgg, hbs⟩ := h
  refine ⟨u, bs, (hg.block g hl (fun e => by have := hne g e.symm; omega)).trans hgg, hbs.keepBut fun b o x hM hc => ?_⟩
  exact hg.cell hc (fun e => by have := hne b e.symm; omega)
theorem RRd.setCell {w : World} {g p : Nat} (h : RRd w g p) {b i : Nat} (hb : g < b) (u : Value) : RRd (w.setCell ⟨b, i, none⟩ u) g p := by
  obtain ⟨u', bs, hgg, hbs⟩ := h
  exact ⟨u', bs, (Below.heap_setCell w ⟨b, i, none⟩ u g (by show g ≠ b; omega)).trans hgg, hbs.keepBut fun b' o x hM hc => (World.cell?_of_block (Below.heap_setCell w ⟨b, i, none⟩ u b' (by show b' ≠ b; omega))).trans hc⟩

theorem open_any (v : Value) (bs : List Int) (w : World) (h : RBytes w w.heap.size v bs) :
    Calls Try.prog 62 #[v] w fun e w' => e = .returned (.pointer (some ⟨w.heap.size, 0, none⟩)) ∧ RRd w' w.heap.size 0 ∧ Below w.heap.size w w' := by
  have hh := h
  obtain ⟨A, c, rfl, h1, h2, h3⟩ := hh
  rw [maxLen_eq] at h2
  have H := Lib.hid h
  clear h3 h
  by_cases hl : 2000 < bs.length
  · obtain ⟨b, o, c', e, -, -, -⟩ := H.out.at_ (k := 0) (by omega)
    cases e
    go_enter Try.func62, Try.ntmps62
    go_wp2
    go_ret
    refine ⟨rfl, ⟨_, bs.take 2000, heap_alloc_new w _, ?_⟩, below_alloc _ _⟩
    have HK := H.out.keepBut (w' := w.alloc (.cells #[.slice (some ⟨b, o, none⟩) 2000 c, .int .i64 0] 125)) fun b o x _ hc => cell_keep (below_alloc _ _) hc
    have ht : (bs.take 2000).length = 2000 := by rw [List.length_take]; omega
    obtain ⟨A2, c2, e2, -, -, h5⟩ := HK
    cases e2
    refine ⟨_, c, by rw [ht], by rw [ht]; omega, by rw [maxLen_eq]; omega, fun j x hj => h5 j x ?_⟩
    rw [List.getElem?_take] at hj
    split at hj
    · exact hj
    · cases hj
  · go_enter Try.func62, Try.ntmps62
    go_wp2
    go_ret
    exact ⟨rfl, ⟨_, bs, heap_alloc_new w _, H.out.keepBut fun b o x _ hc => cell_keep (below_alloc _ _) hc⟩, below_alloc _ _⟩

def OddPost (g p : Nat) (w : World) (e : Ending) (w' : World) : Prop :=
  ∃ (b : Bool) (q : Nat), e = .returned (.bool b) ∧ RRd w' g q ∧ q ≤ p + 1 ∧ w.grownBy w' (some g)

theorem odd_any (g p : Nat) (n : Int) (w : World) (h : RRd w g p) (hp : p ≤ 1000000000) (hn : 0 ≤ n) (hn2 : n ≤ 1000000):
    Calls Try.prog 97 #[.pointer (some ⟨g, 0, none⟩), .int .i64 n] w (OddPost g p w) := by
  have H := Lib.hid h
  clear h
  by_cases h0 : 0 < n
  · go_enter Try.func97, Try.ntmps97
    go_wp2_with fail
    refine (pick_any g p n w H.out hp).mono ?_
    rintro e w1 ⟨x, rfl, -, hr, hg⟩
    have HR := Lib.hid hr
    have HG := Lib.hid hg
    clear hr hg
    go_wp2
    go_ret
    exact ⟨_, _, rfl, HR.out, Nat.le_refl _, HG.out⟩
  · go_enter Try.func97, Try.ntmps97
    go_wp2
    go_ret
    exact ⟨_, _, rfl, H.out, Nat.le_succ _, gr_refl _ _⟩

theorem ORows.grown {w w' : World} {B : Nat} {v : Value} {rows : List (List Int)} {row : Option Nat} (h : ORows w B v rows) (hg : w.grownBy w' row) (hne : ∀ k, row = some k → k < B) : ORows w' B v rows := by
  have hk : ∀ {e : TypeId} {size n : Nat} {u : Value} {zs : List Value}, w.ownsRow B e size u n zs → w'.ownsRow B e size u n zs := fun {e size n u zs} hu => by
    refine own_grown hu hg ?_
    cases hb : u.ownBlock with
    | none => exact .inl rfl
    | some k =>
      right
      intro e
      have := (own_lt hu k hb).1
      have := hne k e.symm
      omega
  obtain ⟨us, h1, h2, h3, h4⟩ := h
  exact ⟨us, hk h1, h2, fun j u r a b => hk (h3 j u r a b), h4⟩
theorem block_cell {w : World} {b : Nat} {cs : Array Value} {t : TypeId} (h : w.heap[b]? = some (.cells cs t (0, 0))) (i : Nat) : w.cell? ⟨b, i, none⟩ = cs[i]? := by simp [World.cell?, h]
theorem block_free {w : World} {b : Nat} {cs : Array Value} {t : TypeId} (h : w.heap[b]? = some (.cells cs t (0, 0))) (i : Nat) : w.frozen? ⟨b, i, none⟩ = false := by simp [World.frozen?, h]
theorem block_set {w : World} {b : Nat} {cs : Array Value} {t : TypeId} (h : w.heap[b]? = some (.cells cs t (0, 0))) (i : Nat) (u : Value) : (w.setCell ⟨b, i, none⟩ u).heap[b]? = some (.cells (cs.setIfInBounds i u) t (0, 0)) := by
  simp [World.setCell, Array.getElem?_modify, h]
theorem block_set_ne {w : World} {b b' : Nat} {o : Obj} (h : w.heap[b]? = some o) (i : Nat) (u : Value) (hb : b ≠ b') : (w.setCell ⟨b', i, none⟩ u).heap[b]? = some o := by
  rw [Below.heap_setCell w ⟨b', i, none⟩ u b hb]; exact h

/-- inside l20SigOf: w the world ahead of the call; block w.heap.size the result's, the next one the local signature's -/
structure SigAt (w wr : World) (g : Nat) (sorts : Int) (u : Value) (rows : List (List Int)) (q : Nat) : Prop where
  loc : wr.heap[w.heap.size + 1]? = some (.cells #[.int .i64 sorts, u] 33 (0, 0))
  res : wr.heap[w.heap.size]? = some (.cells #[.int .i64 0, .slice none 0 0] 33 (0, 0))
  own : ORows wr (w.heap.size + 2) u rows
  rd : RRd wr g q
  gr : w.grownBy wr (some g)
  gl : g < w.heap.size

theorem SigAt.later {w wr w2 : World} {g : Nat} {sorts : Int} {u : Value} {rows : List (List Int)} {q q' : Nat} (h : SigAt w wr g sorts u rows q) (hg : wr.grownBy w2 (some g)) (hr : RRd w2 g q') : SigAt w w2 g sorts u rows q' :=
  ⟨gr_at hg (by have := h.gl; omega) h.loc, gr_at hg (by have := h.gl; omega) h.res, h.own.grown hg (fun k e => by injection e with e; have := h.gl; omega), hr, gr_trans h.gr hg (fun x e => by injection e with e; exact .inl e.symm), h.gl⟩

/-- inside the round: the row under way, and all that was there at the round's head -/
structure RowAt (w wo wj : World) (g : Nat) (rv : Value) (row : List Int) (q : Nat) : Prop where
  own : OInts wj wo.heap.size rv row
  rd : RRd wj g q
  gr : wo.grownBy wj (some g)

theorem info_append (wj w1 wo : World) {g q : Nat} {rv v' : Value} {row : List Int} {x : Int} {o : Obj} (h : RowAt wo wo wj g rv row q) (hgl : g < wo.heap.size) {w2 : World} (hp : wj.grownBy w2 (some g)) (hr : RRd w2 g (q + 1))
    (hv' : w1.ownsRow wo.heap.size 3 1 v' (row.length + 1) (row.map (Value.int .i64) ++ [.int .i64 x])) (hg1 : (w2.alloc o).grownBy w1 rv.ownBlock) : RowAt wo wo w1 g v' (row ++ [x]) (q + 1) := by
  have hb : ∀ k, rv.ownBlock = some k → wo.heap.size ≤ k := fun k e => (own_lt h.own k e).1
  refine ⟨by unfold OInts; simpa using hv', (hr.keep (below_alloc w2 o)).grown hg1 (fun k e => by have := hb k e; omega), ?_⟩
  exact gr_trans (gr_alloc (gr_trans h.gr hp (fun x e => by injection e with e; exact .inl e.symm)) o) hg1 (fun k e => .inr (hb k e))
end

section
open Go.RowKit
set_option linter.unusedVariables false

def SigOfPost (g p : Nat) (sorts : Int) (ops : Nat) (w : World) (e : Ending) (w' : World) : Prop :=
  ∃ (v : Value) (s : MSig) (q : Nat), e = .returned v ∧ OSig w' w.heap.size v s ∧ s.sorts = sorts ∧ s.ops.length ≤ ops ∧ RRd w' g q ∧ q ≤ p + 1 + 4 * ops ∧ w.grownBy w' (some g)
def SigInv (w wr : World) (g : Nat) (sorts : Int) (K k Q : Nat) : Prop :=
  ∃ u rows q, SigAt w wr g sorts u rows q ∧ rows.length + k = K ∧ q + 4 * k ≤ Q
def RowInv (wo wj : World) (g : Nat) (b c : Value) (Q : Nat) : Prop :=
  ∃ row q, ∃ j : Int, c = .int .i64 j ∧ -1 ≤ j ∧ j ≤ 2 ∧ row.length + (j + 1).toNat ≤ 3 ∧ RowAt wo wo wj g b row q ∧ q + (j + 1).toNat ≤ Q

theorem sig_start (w w1 : World) {g p : Nat} {sorts : Int} (hgl : g < w.heap.size) (hr : RRd w1 g (p + 1))
    (hg : ((w.alloc (.cells #[.int .i64 0, .slice none 0 0] 33)).alloc (.cells #[.int .i64 sorts, .slice none 0 0] 33)).grownBy w1 (some g)) : SigAt w w1 g sorts (.slice none 0 0) [] (p + 1) := by
  refine ⟨gr_at hg (by omega) ?_, gr_at hg (by omega) ?_, ORows.nil _ _, hr, gr_trans (gr_alloc (gr_alloc (gr_refl w g) _) _) hg (fun x hx => by injection hx with hx; exact .inl hx.symm), hgl⟩
  · exact (congrArg (fun i => (((w.alloc (.cells #[.int .i64 0, .slice none 0 0] 33)).alloc (.cells #[.int .i64 sorts, .slice none 0 0] 33)).heap[i]?)) (by simp)).trans (heap_alloc_new (w.alloc (.cells #[.int .i64 0, .slice none 0 0] 33)) (.cells #[.int .i64 sorts, .slice none 0 0] 33))
  · rw [heap_alloc_old _ _ (by simp)]
    exact heap_alloc_new w _

theorem own_past {w w' : World} {B g : Nat} {e : TypeId} {size n : Nat} {v : Value} {zs : List Value} (h : w.ownsRow B e size v n zs) (hg : w.grownBy w' (some g)) (hB : g < B) : w'.ownsRow B e size v n zs :=
  own_grown h hg (by
    cases hb : v.ownBlock with
    | none => exact .inl rfl
    | some k => right; intro e; injection e with e; have := (own_lt h k hb).1; omega)

/-- behind the draw of the row's length -/
theorem row_start (wr w1 : World) {g q : Nat} (hgl : g < wr.heap.size) (hr : RRd w1 g q) (c2 : Array Value)
    (hg : ((wr.alloc (.cells #[] 3)).alloc (.cells c2 3)).grownBy w1 (some g)) : RowAt wr wr w1 g (.slice (some ⟨wr.heap.size, 0, none⟩) 0 0) [] q ∧ w1.heap[wr.heap.size + 1]? = some (.cells c2 3 (0, 0)) := by
  refine ⟨⟨?_, hr, gr_trans (gr_alloc (gr_alloc (gr_refl wr g) _) _) hg (fun x hx => by injection hx with hx; exact .inl hx.symm)⟩, gr_at hg (by omega) ?_⟩
  · refine own_grown (w := ((wr.alloc (.cells #[] 3)).alloc (.cells c2 3))) (World.ownsRow.alloc ?_ _) hg (.inr (by simp [Value.ownBlock]; omega))
    exact World.ownsRow_lit wr #[] 0 (Nat.le_refl _) (Nat.zero_le _) rfl
  · exact (congrArg (fun i => (((wr.alloc (.cells #[] 3)).alloc (.cells c2 3)).heap[i]?)) (by simp)).trans (heap_alloc_new (wr.alloc (.cells #[] 3)) (.cells c2 3))

/-- behind 's.Ops = append(s.Ops, row)' -/
theorem sig_push {w wo wj w1 : World} {g : Nat} {sorts : Int} {u v' rv : Value} {rows : List (List Int)} {row : List Int} {q q0 : Nat} {us : List Value} (h : SigAt w wo g sorts u rows q0) (hrow : RowAt wo wo wj g rv row q)
    (h1 : wo.ownsRow (w.heap.size + 2) 55 1 u rows.length us) (h2 : us.length = rows.length)
    (h3 : ∀ (j : Nat) (u : Value) (row : List Int), us[j]? = some u → rows[j]? = some row → OInts wo (w.heap.size + 2) u row) (h4 : ∀ (i j : Nat) (u u' : Value), i < j → us[i]? = some u → us[j]? = some u' → u.ownBlock = none ∨ u.ownBlock ≠ u'.ownBlock)
    (hwo : w.heap.size + 2 ≤ wo.heap.size) (hv' : w1.ownsRow (w.heap.size + 2) 55 1 v' (rows.length + 1) (us ++ [rv])) (hg1 : (wj.alloc (.cells #[rv] 55)).grownBy w1 u.ownBlock) :
    SigAt w (w1.setCell ⟨w.heap.size + 1, 1, none⟩ v') g sorts v' (rows ++ [row]) q := by
  have hgl := h.gl
  have hub : ∀ k, u.ownBlock = some k → w.heap.size + 2 ≤ k := fun k e => (own_lt h1 k e).1
  have hng : ∀ {e : TypeId} {size n B : Nat} {x : Value} {zs : List Value}, wo.ownsRow B e size x n zs → w.heap.size ≤ B → wj.ownsRow B e size x n zs := fun {e size n B x zs} hx hB =>
    own_grown hx hrow.gr (by
      cases hb : x.ownBlock with
      | none => exact .inl rfl
      | some k => right; intro e; injection e with e; have := (own_lt hx k hb).1; omega)
  have hb2 : Below wj.heap.size wj (wj.alloc (.cells #[rv] 55)) := below_alloc _ _
  have loc1 : w1.heap[w.heap.size + 1]? = some (.cells #[.int .i64 sorts, u] 33 (0, 0)) := by
    have l1 := gr_at hrow.gr (by omega) h.loc
    exact (hg1.block _ (by simp; have := (Array.getElem?_eq_some_iff.1 l1).1; omega) (fun e => by have := hub _ e.symm; omega)).trans ((heap_alloc_old _ _ (Array.getElem?_eq_some_iff.1 l1).1).trans l1)
  have res1 : w1.heap[w.heap.size]? = some (.cells #[.int .i64 0, .slice none 0 0] 33 (0, 0)) := by
    have l1 := gr_at hrow.gr (by omega) h.res
    exact (hg1.block _ (by simp; have := (Array.getElem?_eq_some_iff.1 l1).1; omega) (fun e => by have := hub _ e.symm; omega)).trans ((heap_alloc_old _ _ (Array.getElem?_eq_some_iff.1 l1).1).trans l1)
  have own1 : ORows w1 (w.heap.size + 2) v' (rows ++ [row]) := by
    refine ORows.push (w := wj.alloc (.cells #[rv] 55)) ((hng h1 (by omega)).alloc _) h2 (fun j x r a b => World.ownsRow.alloc (hng (h3 j x r a b) (by omega)) _) h4 (World.ownsRow.alloc (OInts.base hrow.own hwo) _) (fun i x hx => ?_) hg1 hv'
    have hi : i < us.length := (List.getElem?_eq_some_iff.1 hx).1
    have hxo := h3 i x rows[i] hx (List.getElem?_eq_getElem (by omega))
    cases hb : x.ownBlock with
    | none => exact .inl rfl
    | some k =>
      right
      intro e
      have a := (own_lt hxo k hb).2
      have b := (own_lt hrow.own k e.symm).1
      omega
  have gr1 : w.grownBy w1 (some g) := by
    refine gr_trans (gr_alloc (gr_trans h.gr hrow.gr (fun x e => by injection e with e; exact .inl e.symm)) _) hg1 (fun k e => .inr (by have := hub k e; omega))
  have rd1 : RRd w1 g q := (hrow.rd.keep hb2).grown hg1 (fun k e => by have := hub k e; omega)
  have hset : ∀ {e : TypeId} {size n B : Nat} {x : Value} {zs : List Value}, w1.ownsRow B e size x n zs → w.heap.size + 2 ≤ B → (w1.setCell ⟨w.heap.size + 1, 1, none⟩ v').ownsRow B e size x n zs := fun {e size n B x zs} hx hB => ownsRow_setCell_below hx (by show w.heap.size + 1 < B; omega) _
  refine ⟨block_set loc1 1 v', block_set_ne res1 _ _ (by omega), ?_, rd1.setCell (by omega) _, gr_setCell gr1 (.inr (by show w.heap.size ≤ w.heap.size + 1; omega)) _, hgl⟩
  obtain ⟨us', a1, a2, a3, a4⟩ := own1
  exact ⟨us', hset a1 (Nat.le_refl _), a2, fun j x r a b => hset (a3 j x r a b) (Nat.le_refl _), a4⟩

theorem ORows.setLow {w : World} {B b : Nat} {v : Value} {rows : List (List Int)} (h : ORows w B v rows) (hb : b < B) (i : Nat) (x : Value) : ORows (w.setCell ⟨b, i, none⟩ x) B v rows := by
  obtain ⟨us, a1, a2, a3, a4⟩ := h
  exact ⟨us, ownsRow_setCell_below a1 hb _, a2, fun j u r a b => ownsRow_setCell_below (a3 j u r a b) hb _, a4⟩
/-- the result is written -/
theorem sig_done {w wo : World} {g q : Nat} {sorts : Int} {u : Value} {rows : List (List Int)} (h : SigAt w wo g sorts u rows q) :
    let w3 := (wo.setCell ⟨w.heap.size, 0, none⟩ (.int .i64 sorts)).setCell ⟨w.heap.size, 1, none⟩ u
    w3.heap[w.heap.size]? = some (.cells #[.int .i64 sorts, u] 33 (0, 0)) ∧ ORows w3 (w.heap.size + 2) u rows ∧ RRd w3 g q ∧ w.grownBy w3 (some g) := by
  intro w3
  have hgl := h.gl
  refine ⟨?_, (h.own.setLow (by omega) _ _).setLow (by omega) _ _, (h.rd.setCell (by omega) _).setCell (by omega) _, gr_setCell (gr_setCell h.gr (.inr (Nat.le_refl _)) _) (.inr (Nat.le_refl _)) _⟩
  exact block_set (block_set h.res 0 _) 1 u

theorem sig_loc {wj w1 : World} {b : Nat} {o o' : Obj} {u : Value} (hloc : wj.heap[b]? = some o) (hg1 : (wj.alloc o').grownBy w1 u.ownBlock) (hub : ∀ k, u.ownBlock = some k → b < k) : w1.heap[b]? = some o := by
  have hlt := (Array.getElem?_eq_some_iff.1 hloc).1
  exact (hg1.block b (by simp; omega) (fun e => by have := hub b e.symm; omega)).trans ((heap_alloc_old _ _ hlt).trans hloc)

set_option maxHeartbeats 800000 in
set_option maxRecDepth 100000 in
theorem sigOf_any (g p ops : Nat) (sorts : Int) (w : World) (h : RRd w g p) (hp : p ≤ 100000000) (hops : ops ≤ 1000) :
    Calls Try.prog 95 #[.pointer (some ⟨g, 0, none⟩), .int .i64 sorts, .int .i64 ops] w (SigOfPost g p sorts ops w) := by
  have H := Lib.hid h
  have hgl := h.lt
  clear h
  obtain ⟨i0, hi, hz0, hz1, hz2⟩ := info_parts Try.info_int
  obtain ⟨i1, hj, hy0, hy1, hy2⟩ := info_parts Try.info_ints
  have HR0 := Lib.hid (H.out.keep (w' := (w.alloc (.cells #[.int .i64 0, .slice none 0 0] 33)).alloc (.cells #[.int .i64 sorts, .slice none 0 0] 33)) ((below_alloc _ _).alloc (by simp) _))
  go_enter Try.func95, Try.ntmps95
  go_wp2_with fail
  refine (pick_any g p _ _ HR0.out (by omega)).mono ?_
  rintro e w1 ⟨x, rfl, hx, hr, hg⟩
  have hx := hx.2 (by omega)
  obtain ⟨K, rfl⟩ := Int.eq_ofNat_of_zero_le hx.1
  have hK : K ≤ ops := by omega
  have HI : Hid (SigInv w w1 g sorts K K (p + 1 + 4 * K)) := ⟨_, _, _, sig_start w w1 hgl hr hg, by simp, by omega⟩
  clear hx hr hg
  go_wp2
  go_loopw [8, 9, 10] (fun a b c wr => ∃ k : Nat, a = .int .i64 k ∧ k ≤ K ∧ SigInv w wr g sorts K k (p + 1 + 4 * K)) (fun a _ _ _ => (intOf a).toNat)
  case atStart => exact ⟨K, rfl, Nat.le_refl _, HI.out⟩
  case round =>
    obtain ⟨k, rfl, hk, hinv⟩ := hrel
    have HV := Lib.hid hinv
    clear hinv
    obtain ⟨wo, rfl⟩ : ∃ wo : World, wo = wr := ⟨_, rfl⟩
    obtain ⟨u, rows, q, hat, hrl, hq⟩ := HV.out
    obtain ⟨us0, hu0, -⟩ := hat.own
    obtain ⟨Au, cu, rfl, -⟩ := own_reads hu0
    clear hu0
    have HAT := Lib.hid hat
    have HRL := Lib.hid hrl
    have hwl : w.heap.size + 2 ≤ wo.heap.size := by have := (Array.getElem?_eq_some_iff.1 hat.loc).1; omega
    have hgo : g < wo.heap.size := by omega
    clear hat hrl HV HI
    by_cases hk0 : 0 < k
    · have HRD := Lib.hid (HAT.out.rd.keep (w' := (wo.alloc (.cells #[] 3)).alloc (.cells #[.int .i64 0, .int .i64 0, .int .i64 1, .int .i64 1, .int .i64 2, .int .i64 2] 3)) ((below_alloc _ _).alloc (by simp) _))
      go_wp2_with fail
      refine (pick_any g q _ _ HRD.out (by omega)).mono ?_
      rintro e w2 ⟨x, rfl, hx, hr, hg⟩
      have hx := hx.2 (by omega)
      obtain ⟨hrow, hlit⟩ := row_start wo w2 hgo hr _ hg
      obtain ⟨y, rfl⟩ := Int.eq_ofNat_of_zero_le hx.1
      have hy6 : y < 6 := by omega
      obtain ⟨j0, hj0, hj1, hcell⟩ : ∃ j0 : Int, 0 ≤ j0 ∧ j0 ≤ 2 ∧ w2.cell? ⟨wo.heap.size + 1, y, none⟩ = some (.int .i64 j0) := by
        rw [block_cell hlit]
        match y, hy6 with
        | 0, _ => exact ⟨0, by omega, by omega, rfl⟩
        | 1, _ => exact ⟨0, by omega, by omega, rfl⟩
        | 2, _ => exact ⟨1, by omega, by omega, rfl⟩
        | 3, _ => exact ⟨1, by omega, by omega, rfl⟩
        | 4, _ => exact ⟨2, by omega, by omega, rfl⟩
        | 5, _ => exact ⟨2, by omega, by omega, rfl⟩
      have HROW := Lib.hid hrow
      clear hr hg hrow hlit hx HRD
      go_wp2
      go_loopw [9, 10] (fun b c wj => RowInv wo wj g b c (q + 4)) (fun _ c _ => (intOf c + 1).toNat)
      case atStart => exact ⟨[], q + 1, j0, rfl, by omega, hj1, by simp; omega, HROW.out, by omega⟩
      case round =>
        obtain ⟨row, q2, j, rfl, hj2, hj3, hlen, hrowAt, hq2⟩ := hrel
        obtain ⟨A9, c9, rfl, -⟩ := own_reads hrowAt.own
        have HROWJ := Lib.hid hrowAt
        clear hrowAt
        by_cases hjj : 0 ≤ j
        · obtain ⟨wj, rfl⟩ : ∃ wj : World, wj = wr := ⟨_, rfl⟩
          go_wp2_with fail
          refine (pick_any g q2 _ _ HROWJ.out.rd (by omega)).mono ?_
          rintro e w3 ⟨x, rfl, -, hr, hg⟩
          have HR3 := Lib.hid hr
          have HG3 := Lib.hid hg
          clear hr hg
          have hown3 := own_past HROWJ.out.own HG3.out hgo
          go_wp2_with (at_builtin; refine wpList_append_own _ rfl _ _ 55 rfl wo.heap.size 3 i0 (.int .i64 0) 1 8 Try.underlying55 hi hz0 hz1 hz2 rfl (by decide) _ _ _ rfl (hown3.alloc _) ⟨w3.heap.size, 0, none⟩ 1 1 [.int .i64 x] rfl rfl ?c1 ?c2 ?c3 ?c4 ?c5 ?_)
          case c1 =>
            intro j u hj
            match j, hj with
            | 0, hj => simp at hj; subst hj; simp [Addr.add]
          case c2 => intro u hu; simp at hu; subst hu; rfl
          case c3 => unfold maxLen; omega
          case c4 => omega
          case c5 => have := HROWJ.out.gr.size; have := HG3.out.size; simp; omega
          intro v' w4 hown4 hgrow4 _
          have HN := Lib.hid (info_append wj w4 wo HROWJ.out hgo HG3.out HR3.out hown4 hgrow4)
          clear hown3 hown4 hgrow4
          go_wp2
          go_roundw
          case rel => exact ⟨row ++ [x], q2 + 1, j - 1, rfl, by omega, by omega, by simp; omega, HN.out, by omega⟩
          case measure => simp [intOf]; omega
        · have hjm : j = -1 := by omega
          have HJ := Lib.hid hjm
          clear hjm
          obtain ⟨wj, rfl⟩ : ∃ wj : World, wj = wr := ⟨_, rfl⟩
          obtain ⟨us, h1, h2, h3, h4⟩ := HAT.out.own
          have H1 := Lib.hid h1
          have H2 := Lib.hid h2
          have H3 := Lib.hid h3
          have H4 := Lib.hid h4
          clear h1 h2 h3 h4
          have hloc := gr_at HROWJ.out.gr (by omega) HAT.out.loc
          have f1 := block_cell hloc 1
          simp at f1
          have f2 := block_free hloc 1
          have hbW : w.heap.size + 1 < wj.heap.size := by have := HROWJ.out.gr.size; omega
          have f3 : (wj.alloc (.cells #[.slice A9 row.length c9] 55)).cell? ⟨wj.heap.size, 0, none⟩ = some (.slice A9 row.length c9) := by
            rw [World.cell?_alloc_at _ _ _ _ rfl]; rfl
          have hownU := (own_past H1.out HROWJ.out.gr (by omega)).alloc (.cells #[.slice A9 row.length c9] 55)
          go_wp2_with (at_builtin; refine wpList_append_own _ rfl _ _ 22 rfl (w.heap.size + 2) 55 i1 (.slice none 0 0) 1 24 Try.underlying22 hj hy0 hy1 hy2 rfl (by decide) _ _ _ rfl hownU ⟨wj.heap.size, 0, none⟩ 1 1 [.slice A9 row.length c9] rfl rfl ?c1 ?c2 ?c3 ?c4 ?c5 ?_)
          case c2 => first | rfl | (intro u hu; simp at hu; subst hu; rfl)
          case c3 => unfold maxLen; have := HRL.out; omega
          case c4 => have := HRL.out; omega
          case c5 => first | omega | (simp; omega)
          intro v' w4 hown4 hgrow4 _
          have HN := Lib.hid (sig_push HAT.out HROWJ.out H1.out H2.out H3.out H4.out hwl hown4 hgrow4)
          have hloc4 := sig_loc hloc hgrow4 (fun k e => by have := (own_lt H1.out k e).1; omega)
          have e1 := block_cell hloc4 1
          simp at e1
          have e2 := block_free hloc4 1
          obtain ⟨A4, c4, rfl, -⟩ := own_reads hown4
          clear hloc hloc4 hown4 hgrow4 hownU f1 f2 f3
          go_wp2
          go_roundw
          case rel => exact ⟨k - 1, by go_num, by omega, _, _, _, HN.out, by have := HRL.out; simp; omega, by have := HJ.out; omega⟩
          case measure => simp [intOf]; omega
    · have hl := block_cell HAT.out.loc
      have hl0 := hl 0
      have hl1 := hl 1
      simp at hl0 hl1
      have hr0 := block_cell HAT.out.res 0
      have hr1 := block_cell HAT.out.res 1
      have hr2 := block_free HAT.out.res 0
      have hr3 := block_free HAT.out.res 1
      simp at hr0 hr1
      clear hl
      go_wp2
      obtain ⟨d1, d2, d3, d4⟩ := sig_done HAT.out
      generalize (wo.setCell ⟨w.heap.size, 0, none⟩ (.int .i64 sorts)).setCell ⟨w.heap.size, 1, none⟩ (.slice Au rows.length cu) = w9 at d1 d2 d3 d4
      have k0 := block_cell d1 0
      have k1 := block_cell d1 1
      simp at k0 k1
      refine bodyPost_ret (v := .agg #[.int .i64 sorts, .slice Au rows.length cu]) (by simp [results, Try.results95, go_sem, k0, k1]) rfl ?_
      exact ⟨_, ⟨sorts, rows⟩, q, rfl, ⟨_, rfl, d2.base (by omega)⟩, rfl, by have := HRL.out; simp; omega, d3, by omega, d4⟩
end

section
open Go.RowKit
set_option linter.unusedVariables false

theorem rows_push {wo wj w1 : World} {g B S : Nat} {u v' rv : Value} {rows : List (List Int)} {row : List Int} {us : List Value}
    (h1 : wo.ownsRow B 55 1 u rows.length us) (h2 : us.length = rows.length)
    (h3 : ∀ (j : Nat) (u : Value) (row : List Int), us[j]? = some u → rows[j]? = some row → OInts wo B u row) (h4 : ∀ (i j : Nat) (u u' : Value), i < j → us[i]? = some u → us[j]? = some u' → u.ownBlock = none ∨ u.ownBlock ≠ u'.ownBlock)
    (hgr : wo.grownBy wj (some g)) (hgB : g < B) (hS : wo.heap.size ≤ S) (hBS : B ≤ S) (hrow : OInts wj S rv row)
    (hv' : w1.ownsRow B 55 1 v' (rows.length + 1) (us ++ [rv])) (hg1 : (wj.alloc (.cells #[rv] 55)).grownBy w1 u.ownBlock) : ORows w1 B v' (rows ++ [row]) := by
  refine ORows.push (w := wj.alloc (.cells #[rv] 55)) ((own_past h1 hgr hgB).alloc _) h2 (fun j x r a b => World.ownsRow.alloc (own_past (h3 j x r a b) hgr hgB) _) h4 (World.ownsRow.alloc (OInts.base hrow hBS) _) (fun i x hx => ?_) hg1 hv'
  have hi : i < us.length := (List.getElem?_eq_some_iff.1 hx).1
  have hxo := h3 i x rows[i] hx (List.getElem?_eq_getElem (by omega))
  cases hb : x.ownBlock with
  | none => exact .inl rfl
  | some k =>
    right
    intro e
    have a := (own_lt hxo k hb).2
    have b := (own_lt hrow k e.symm).1
    omega

theorem new_one {w : World} {b : Nat} {x : Value} (h : w.cell? ⟨b, 0, none⟩ = some x) : ∀ (j : Nat) (u : Value), [x][j]? = some u → w.cell? ((⟨b, 0, none⟩ : Addr).add j) = some u := by
  intro j u hj
  match j, hj with
  | 0, hj => simp at hj; subst hj; simpa [Addr.add] using h

/-- as SigPost below, and how many sorts there may be -/
def SigPost2 (g p : Nat) (w : World) (e : Ending) (w' : World) : Prop :=
  ∃ (v : Value) (s : MSig) (q : Nat), e = .returned v ∧ OSig w' w.heap.size v s ∧ (s.ops.length ≤ 5 ∧ 0 ≤ s.sorts ∧ s.sorts ≤ 3) ∧ RRd w' g q ∧ q ≤ p + 30 ∧ w.grownBy w' (some g)
def SigPost (g p : Nat) (w : World) (e : Ending) (w' : World) : Prop :=
  ∃ (v : Value) (s : MSig) (q : Nat), e = .returned v ∧ OSig w' w.heap.size v s ∧ s.ops.length ≤ 5 ∧ RRd w' g q ∧ q ≤ p + 30 ∧ w.grownBy w' (some g)

/-- inside l20Sig, behind l20SigOf: block b is the result's, block b5 the local signature's -/
structure LocAt (w wr : World) (g b5 : Nat) (sorts : Int) (u : Value) (rows : List (List Int)) (q : Nat) : Prop where
  loc : wr.heap[b5]? = some (.cells #[.int .i64 sorts, u] 33 (0, 0))
  res : wr.heap[w.heap.size]? = some (.cells #[.int .i64 0, .slice none 0 0] 33 (0, 0))
  own : ORows wr (w.heap.size + 1) u rows
  rd : RRd wr g q
  gr : w.grownBy wr (some g)
  gl : g < w.heap.size
  bl : w.heap.size < b5

theorem LocAt.later {w wr w2 : World} {g b5 : Nat} {sorts : Int} {u : Value} {rows : List (List Int)} {q q' : Nat} (h : LocAt w wr g b5 sorts u rows q) (hg : wr.grownBy w2 (some g)) (hr : RRd w2 g q') : LocAt w w2 g b5 sorts u rows q' :=
  ⟨gr_at hg (by have := h.gl; have := h.bl; omega) h.loc, gr_at hg (by have := h.gl; omega) h.res, h.own.grown hg (fun k e => by injection e with e; have := h.gl; omega), hr, gr_trans h.gr hg (fun x e => by injection e with e; exact .inl e.symm), h.gl, h.bl⟩

theorem loc_start {w w4 : World} {g q : Nat} {v u : Value} {s : MSig} (hv : v = .agg #[.int .i64 s.sorts, u]) (ho : ORows w4 (w.alloc (.cells #[.int .i64 0, .slice none 0 0] 33)).heap.size u s.ops) (hr : RRd w4 g q) (hgl : g < w.heap.size)
    (hg : (w.alloc (.cells #[.int .i64 0, .slice none 0 0] 33)).grownBy w4 (some g)) :
    LocAt w (w4.alloc (.cells #[.int .i64 s.sorts, u] 33)) g w4.heap.size s.sorts u s.ops q := by
  have hsz := hg.size
  simp at hsz ho
  have hb := below_alloc w4 (.cells #[.int .i64 s.sorts, u] 33)
  refine ⟨heap_alloc_new w4 _, ?_, ho.keep hb, hr.keep hb, gr_alloc (gr_trans (gr_alloc (gr_refl w g) _) hg (fun x e => by injection e with e; exact .inl e.symm)) _, hgl, by omega⟩
  rw [heap_alloc_old _ _ (by omega)]
  exact gr_at hg (by omega) (heap_alloc_new w _)

theorem loc_pushed {w w6 w7 : World} {g b5 q : Nat} {sorts : Int} {u rv : Value} {rows : List (List Int)} (h : LocAt w w6 g b5 sorts u rows q) (hlow : ∀ k, u.ownBlock = some k → k < b5) (o : Obj) (hg1 : ((w6.alloc o).alloc (.cells #[rv] 55)).grownBy w7 u.ownBlock) :
    w7.heap[b5]? = some (.cells #[.int .i64 sorts, u] 33 (0, 0)) ∧ w7.heap[w.heap.size]? = some (.cells #[.int .i64 0, .slice none 0 0] 33 (0, 0)) ∧ RRd w7 g q ∧ w.grownBy w7 (some g) := by
  have hgl := h.gl
  have hbl := h.bl
  have hub : ∀ k, u.ownBlock = some k → w.heap.size + 1 ≤ k := fun k e => by obtain ⟨us, h1, -⟩ := h.own; exact (own_lt h1 k e).1
  have hb2 : Below w6.heap.size w6 ((w6.alloc o).alloc (.cells #[rv] 55)) := (below_alloc _ _).alloc (by simp) _
  have at_ : ∀ {k : Nat} {c : Obj}, w6.heap[k]? = some c → (∀ j, u.ownBlock = some j → j ≠ k) → w7.heap[k]? = some c := fun {k c} hc hn => by
    have hlt := (Array.getElem?_eq_some_iff.1 hc).1
    exact (hg1.block k (by simp; omega) (fun e => hn k e.symm rfl)).trans ((hb2.block k hlt).trans hc)
  refine ⟨at_ h.loc (fun j e => by have := hlow j e; omega), at_ h.res (fun j e => by have := hub j e; omega), (h.rd.keep hb2).grown hg1 (fun k e => by have := hub k e; omega), ?_⟩
  exact gr_trans (gr_alloc (gr_alloc h.gr o) _) hg1 (fun k e => .inr (by have := hub k e; omega))

theorem loc_push {w w6 w7 : World} {g b5 q : Nat} {sorts : Int} {u rv v' : Value} {rows rows' : List (List Int)} (h : LocAt w w6 g b5 sorts u rows q) (hlow : ∀ k, u.ownBlock = some k → k < b5) (o : Obj) (hg1 : ((w6.alloc o).alloc (.cells #[rv] 55)).grownBy w7 u.ownBlock)
    (ho : ORows w7 (w.heap.size + 1) v' rows') (hv : ∀ k, v'.ownBlock = some k → k ≠ b5) (hin : ∀ (B : Nat) (x : Value) (xs : List Int), OInts w7 B x xs → x.ownBlock ≠ some b5) : LocAt w (w7.setCell ⟨b5, 1, none⟩ v') g b5 sorts v' rows' q := by
  obtain ⟨l1, l2, l3, l4⟩ := loc_pushed h hlow o hg1
  have hgl := h.gl
  have hbl := h.bl
  refine ⟨block_set l1 1 v', block_set_ne l2 _ _ (by omega), ?_, l3.setCell (by omega) _, gr_setCell l4 (.inr (by show w.heap.size ≤ b5; omega)) _, hgl, hbl⟩
  obtain ⟨us, a1, a2, a3, a4⟩ := ho
  have hset : ∀ {e : TypeId} {size n B : Nat} {x : Value} {zs : List Value}, w7.ownsRow B e size x n zs → x.ownBlock ≠ some b5 → (w7.setCell ⟨b5, 1, none⟩ v').ownsRow B e size x n zs := fun {e size n B x zs} hx hB => by
    have hgb : w7.grownBy (w7.setCell ⟨b5, 1, none⟩ v') (some b5) := ⟨rfl, rfl, rfl, by simp [World.setCell], fun i _ hne => Below.heap_setCell w7 ⟨b5, 1, none⟩ v' i (by rintro rfl; exact hne rfl)⟩
    exact own_grown hx hgb (.inr hB)
  exact ⟨us, hset a1 (fun e => hv _ e rfl), a2, fun j x r a b => hset (a3 j x r a b) (hin _ x r (a3 j x r a b)), a4⟩
/-- no row lies in a block of another element type -/
theorem own_not {w : World} {B b : Nat} {e t : TypeId} {size n : Nat} {v : Value} {zs : List Value} {cs : Array Value} (h : w.ownsRow B e size v n zs) (hb : w.heap[b]? = some (.cells cs t (0, 0))) (hne : e ≠ t) : v.ownBlock ≠ some b := by
  rcases h.2 with ⟨rfl, _⟩ | ⟨g, cap, cur, rfl, hg, hh, r⟩
  · simp [Value.ownBlock]
  · intro he
    simp [Value.ownBlock] at he
    subst he
    rw [hh] at hb
    injection hb with hb
    injection hb with _ ht
    exact hne ht

/-- the result is written, from the local one -/
theorem loc_done {w wo : World} {g q b5 : Nat} {sorts : Int} {u : Value} {rows : List (List Int)} (h : LocAt w wo g b5 sorts u rows q) :
    let w3 := (wo.setCell ⟨w.heap.size, 0, none⟩ (.int .i64 sorts)).setCell ⟨w.heap.size, 1, none⟩ u
    w3.heap[w.heap.size]? = some (.cells #[.int .i64 sorts, u] 33 (0, 0)) ∧ ORows w3 (w.heap.size + 1) u rows ∧ RRd w3 g q ∧ w.grownBy w3 (some g) := by
  intro w3
  have hgl := h.gl
  refine ⟨?_, (h.own.setLow (by omega) _ _).setLow (by omega) _ _, (h.rd.setCell (by omega) _).setCell (by omega) _, gr_setCell (gr_setCell h.gr (.inr (Nat.le_refl _)) _) (.inr (Nat.le_refl _)) _⟩
  exact block_set (block_set h.res 0 _) 1 u

set_option maxHeartbeats 1600000 in
set_option maxRecDepth 100000 in
theorem sig_two (g p : Nat) (n : Int) (w : World) (h : RRd w g p) (hp : p ≤ 10000000) (hn : 0 ≤ n) (hn2 : n ≤ 1000000) :
    Calls Try.prog 61 #[.pointer (some ⟨g, 0, none⟩), .int .i64 n] w (SigPost2 g p w) := by
  have H := Lib.hid h
  have hgl := h.lt
  clear h
  obtain ⟨i1, hj, hy0, hy1, hy2⟩ := info_parts Try.info_ints
  have HR0 := Lib.hid (H.out.keep (w' := (w.alloc (.cells #[.int .i64 0, .slice none 0 0] 33))) (below_alloc _ _))
  go_enter Try.func61, Try.ntmps61
  go_wp2_with fail
  refine (pick_any g p _ _ HR0.out (by omega)).mono ?_
  rintro e w1 ⟨x1, rfl, hx1, hr1, hg1⟩
  have hx1 := hx1.2 (by omega)
  have HR1 := Lib.hid hr1
  have HG1 := Lib.hid hg1
  clear hr1 hg1
  go_wp2_with fail
  refine (pick_any g (p + 1) _ _ HR1.out (by omega)).mono ?_
  rintro e w2 ⟨x2, rfl, hx2, hr2, hg2⟩
  have hx2 := hx2.2 (by omega)
  have HR2 := Lib.hid hr2
  have HG2 := Lib.hid hg2
  clear hr2 hg2
  go_wp2_with fail
  refine (sigOf_any g (p + 1 + 1) 4 _ _ HR2.out (by omega) (by omega)).mono ?_
  rintro e w4 ⟨v, s, q4, rfl, ⟨u, hv, ho⟩, hs1, hs2, hr4, hq4, hg4⟩
  have hu := ho
  obtain ⟨us0, hu0, -⟩ := hu
  have HLOW := Lib.hid (fun k e => (own_lt hu0 k e).2)
  obtain ⟨Au, cu, rfl, -⟩ := own_reads hu0
  clear hu0
  subst hv
  obtain ⟨sorts, rows⟩ := s
  simp only at hs1 hs2 ho
  have HSB := Lib.hid (show 0 ≤ sorts ∧ sorts ≤ 3 by
    obtain ⟨a, rfl⟩ := Int.eq_ofNat_of_zero_le hx1.1
    obtain ⟨b, rfl⟩ := Int.eq_ofNat_of_zero_le hx2.1
    rw [hs1]
    omega)
  clear hx1 hx2 hs1
  have hlow : w2.heap.size ≤ w4.heap.size := hg4.size
  have hw2 : w.heap.size + 1 ≤ w2.heap.size := by have := HG1.out.size; have := HG2.out.size; simp at *; omega
  have HL1 := Lib.hid (loc_start (w := w) (w4 := w4) (g := g) (q := q4) (s := ⟨sorts, rows⟩) rfl (ho.base (by simp; omega)) hr4 hgl (gr_trans (gr_trans HG1.out HG2.out (fun x e => by injection e with e; exact .inl e.symm)) hg4 (fun x e => by injection e with e; exact .inl e.symm)))
  clear ho hr4 hg4 HR1 HR2 HR0
  simp only at HL1
  go_wp2_with fail
  refine (odd_any g q4 _ _ HL1.out.rd (by omega) hn hn2).mono ?_
  rintro e w5 ⟨b, q5, rfl, hr5, hq5, hg5⟩
  have HL2 := Lib.hid (HL1.out.later hg5 hr5)
  have HG5 := Lib.hid hg5
  clear hr5 hg5
  cases b with
  | false =>
    have hl := block_cell HL2.out.loc
    have hl0 := hl 0
    have hl1 := hl 1
    simp at hl0 hl1
    have hr0 := block_cell HL2.out.res 0
    have hr1 := block_cell HL2.out.res 1
    have hr2 := block_free HL2.out.res 0
    have hr3 := block_free HL2.out.res 1
    simp at hr0 hr1
    clear hl
    go_wp2
    obtain ⟨d1, d2, d3, d4⟩ := loc_done HL2.out
    generalize (w5.setCell ⟨w.heap.size, 0, none⟩ (.int .i64 sorts)).setCell ⟨w.heap.size, 1, none⟩ (.slice Au rows.length cu) = w9 at d1 d2 d3 d4
    have k0 := block_cell d1 0
    have k1 := block_cell d1 1
    simp at k0 k1
    refine bodyPost_ret (v := .agg #[.int .i64 sorts, .slice Au rows.length cu]) (by simp [results, Try.results61, go_sem, k0, k1]) rfl ?_
    exact ⟨_, ⟨sorts, rows⟩, _, rfl, ⟨_, rfl, d2.base (by omega)⟩, by have := HSB.out; simp; omega, d3, by omega, d4⟩
  | true =>
    go_wp2_with fail
    refine (pick_any g q5 _ _ HL2.out.rd (by omega)).mono ?_
    rintro e w6 ⟨x6, rfl, hx6, hr6, hg6⟩
    have hx6 := hx6.2 (by omega)
    have HL3 := Lib.hid (HL2.out.later hg6 hr6)
    have HG6 := Lib.hid hg6
    clear hr6 hg6
    by_cases k0 : x6 = 0
    · subst k0
      have hr0 := block_cell HL3.out.res 0
      have hr1 := block_cell HL3.out.res 1
      have hr2 := block_free HL3.out.res 0
      have hr3 := block_free HL3.out.res 1
      simp at hr0 hr1
      go_wp2
      have hgl' := HL3.out.gl
      have d1 := block_set (block_set HL3.out.res 0 (.int .i64 0)) 1 (.slice none 0 0)
      have d3 := (HL3.out.rd.setCell (b := w.heap.size) (i := 0) (by omega) (.int .i64 0)).setCell (b := w.heap.size) (i := 1) (by omega) (.slice none 0 0)
      have d4 := gr_setCell (p := ⟨w.heap.size, 1, none⟩) (gr_setCell (p := ⟨w.heap.size, 0, none⟩) HL3.out.gr (.inr (Nat.le_refl _)) (.int .i64 0)) (.inr (Nat.le_refl _)) (.slice none 0 0)
      generalize (w6.setCell ⟨w.heap.size, 0, none⟩ (.int .i64 0)).setCell ⟨w.heap.size, 1, none⟩ (.slice none 0 0) = w9 at d1 d3 d4
      have k0 := block_cell d1 0
      have k1 := block_cell d1 1
      simp at k0 k1
      refine bodyPost_ret (v := .agg #[.int .i64 0, .slice none 0 0]) (by simp [results, Try.results61, go_sem, k0, k1]) rfl ?_
      exact ⟨_, ⟨0, []⟩, _, rfl, ⟨_, rfl, ORows.nil _ _⟩, by simp, d3, by omega, d4⟩
    by_cases k1 : x6 = 1
    · subst k1
      have hloc := HL3.out.loc
      have f0 := block_cell hloc 0
      have f1 := block_cell hloc 1
      have f2 := block_free hloc 1
      simp at f0 f1
      have hb5 := (Array.getElem?_eq_some_iff.1 hloc).1
      have hrow : OInts (w6.alloc (.cells #[.int .i64 sorts] 3)) w6.heap.size (.slice (some ⟨w6.heap.size, 0, none⟩) 1 1) [sorts] := World.ownsRow_lit w6 #[.int .i64 sorts] 1 (Nat.le_refl _) (by unfold maxLen; omega) rfl
      have HROW := Lib.hid hrow
      obtain ⟨us, h1, h2, h3, h4⟩ := HL1.out.own
      have H1 := Lib.hid h1
      have H2 := Lib.hid h2
      have H3 := Lib.hid h3
      have H4 := Lib.hid h4
      clear h1 h2 h3 h4 hrow
      have hgr6 := gr_alloc (gr_trans HG5.out HG6.out (fun x e => by injection e with e; exact .inl e.symm)) (.cells #[.int .i64 sorts] 3)
      have HGR := Lib.hid hgr6
      clear hgr6
      have hownU := (own_past H1.out HGR.out (by omega)).alloc (.cells #[.slice (some ⟨w6.heap.size, 0, none⟩) 1 1] 55)
      have f3 : ((w6.alloc (.cells #[.int .i64 sorts] 3)).alloc (.cells #[.slice (some ⟨w6.heap.size, 0, none⟩) 1 1] 55)).cell? ⟨w6.heap.size + 1, 0, none⟩ = some (.slice (some ⟨w6.heap.size, 0, none⟩) 1 1) := by
        rw [World.cell?_alloc_at _ _ _ _ (by simp)]; rfl
      go_wp2_with (at_builtin; refine wpList_append_own _ rfl _ _ 22 rfl (w.heap.size + 1) 55 i1 (.slice none 0 0) 1 24 Try.underlying22 hj hy0 hy1 hy2 rfl (by decide) _ _ _ rfl hownU ⟨w6.heap.size + 1, 0, none⟩ 1 1 [.slice (some ⟨w6.heap.size, 0, none⟩) 1 1] rfl rfl ?c1 ?c2 ?c3 ?c4 ?c5 ?_)
      any_goals first
        | exact new_one f3
        | (unfold maxLen; omega)
        | omega
        | (simp; omega)
        | (intro u hu; simp at hu; subst hu; rfl)
        | rfl
      intro v' w7 hown7 hgrow7 _
      have HO7 := Lib.hid (rows_push H1.out H2.out H3.out H4.out HGR.out (by omega) (by have := HG5.out.size; have := HG6.out.size; omega) (by omega) HROW.out hown7 hgrow7)
      obtain ⟨hloc7, hres7, -, -⟩ := loc_pushed HL3.out HLOW.out (.cells #[.int .i64 sorts] 3) hgrow7
      have HL7 := Lib.hid (loc_push HL3.out HLOW.out (.cells #[.int .i64 sorts] 3) hgrow7 HO7.out (fun k e => by rintro rfl; exact own_not hown7 hloc7 (by decide) e) (fun B x xs h => own_not h hloc7 (by decide)))
      obtain ⟨A7, c7, rfl, -⟩ := own_reads hown7
      have e0 := block_cell hloc7 0
      have e1 := block_cell hloc7 1
      have e2 := block_free hloc7 1
      have e3 := block_cell hres7 0
      have e4 := block_cell hres7 1
      have e5 := block_free hres7 0
      have e6 := block_free hres7 1
      simp at e0 e1 e3 e4
      clear f0 f1 f2 f3 hloc hloc7 hres7 hownU hown7 hgrow7
      go_wp2
      obtain ⟨d1, d2, d3, d4⟩ := loc_done HL7.out
      generalize ((w7.setCell ⟨w4.heap.size, 1, none⟩ (.slice A7 (rows.length + 1) c7)).setCell ⟨w.heap.size, 0, none⟩ (.int .i64 sorts)).setCell ⟨w.heap.size, 1, none⟩ (.slice A7 (rows.length + 1) c7) = w9 at d1 d2 d3 d4 ⊢
      have k0 := block_cell d1 0
      have k1 := block_cell d1 1
      simp at k0 k1
      refine bodyPost_ret (v := .agg #[.int .i64 sorts, .slice A7 (rows.length + 1) c7]) (by simp [results, Try.results61, go_sem, k0, k1]) rfl ?_
      exact ⟨_, ⟨sorts, rows ++ [[sorts]]⟩, _, rfl, ⟨_, rfl, d2.base (by omega)⟩, by have := HSB.out; simp; omega, d3, by omega, d4⟩
    by_cases k2 : x6 = 2
    · subst k2
      have hloc := HL3.out.loc
      have f0 := block_cell hloc 0
      have f1 := block_cell hloc 1
      have f2 := block_free hloc 1
      simp at f0 f1
      have hb5 := (Array.getElem?_eq_some_iff.1 hloc).1
      have hrow : OInts (w6.alloc (.cells #[] 3)) w6.heap.size (.slice (some ⟨w6.heap.size, 0, none⟩) 0 0) [] := World.ownsRow_lit w6 #[] 0 (Nat.le_refl _) (by unfold maxLen; omega) rfl
      have HROW := Lib.hid hrow
      obtain ⟨us, h1, h2, h3, h4⟩ := HL1.out.own
      have H1 := Lib.hid h1
      have H2 := Lib.hid h2
      have H3 := Lib.hid h3
      have H4 := Lib.hid h4
      clear h1 h2 h3 h4 hrow
      have hgr6 := gr_alloc (gr_trans HG5.out HG6.out (fun x e => by injection e with e; exact .inl e.symm)) (.cells #[] 3)
      have HGR := Lib.hid hgr6
      clear hgr6
      have hownU := (own_past H1.out HGR.out (by omega)).alloc (.cells #[.slice (some ⟨w6.heap.size, 0, none⟩) 0 0] 55)
      have f3 : ((w6.alloc (.cells #[] 3)).alloc (.cells #[.slice (some ⟨w6.heap.size, 0, none⟩) 0 0] 55)).cell? ⟨w6.heap.size + 1, 0, none⟩ = some (.slice (some ⟨w6.heap.size, 0, none⟩) 0 0) := by
        rw [World.cell?_alloc_at _ _ _ _ (by simp)]; rfl
      go_wp2_with (at_builtin; refine wpList_append_own _ rfl _ _ 22 rfl (w.heap.size + 1) 55 i1 (.slice none 0 0) 1 24 Try.underlying22 hj hy0 hy1 hy2 rfl (by decide) _ _ _ rfl hownU ⟨w6.heap.size + 1, 0, none⟩ 1 1 [.slice (some ⟨w6.heap.size, 0, none⟩) 0 0] rfl rfl ?d1 ?d2 ?d3 ?d4 ?d5 ?_)
      any_goals first
        | exact new_one f3
        | (unfold maxLen; omega)
        | omega
        | (simp; omega)
        | (intro u hu; simp at hu; subst hu; rfl)
        | rfl
      intro v' w7 hown7 hgrow7 _
      have HO7 := Lib.hid (rows_push H1.out H2.out H3.out H4.out HGR.out (by omega) (by have := HG5.out.size; have := HG6.out.size; omega) (by omega) HROW.out hown7 hgrow7)
      obtain ⟨hloc7, hres7, -, -⟩ := loc_pushed HL3.out HLOW.out (.cells #[] 3) hgrow7
      have HL7 := Lib.hid (loc_push HL3.out HLOW.out (.cells #[] 3) hgrow7 HO7.out (fun k e => by rintro rfl; exact own_not hown7 hloc7 (by decide) e) (fun B x xs h => own_not h hloc7 (by decide)))
      obtain ⟨A7, c7, rfl, -⟩ := own_reads hown7
      have e0 := block_cell hloc7 0
      have e1 := block_cell hloc7 1
      have e2 := block_free hloc7 1
      have e3 := block_cell hres7 0
      have e4 := block_cell hres7 1
      have e5 := block_free hres7 0
      have e6 := block_free hres7 1
      simp at e0 e1 e3 e4
      clear f0 f1 f2 f3 hloc hloc7 hres7 hownU hown7 hgrow7
      go_wp2
      obtain ⟨d1, d2, d3, d4⟩ := loc_done HL7.out
      generalize ((w7.setCell ⟨w4.heap.size, 1, none⟩ (.slice A7 (rows.length + 1) c7)).setCell ⟨w.heap.size, 0, none⟩ (.int .i64 sorts)).setCell ⟨w.heap.size, 1, none⟩ (.slice A7 (rows.length + 1) c7) = w9 at d1 d2 d3 d4 ⊢
      have k0 := block_cell d1 0
      have k1 := block_cell d1 1
      simp at k0 k1
      refine bodyPost_ret (v := .agg #[.int .i64 sorts, .slice A7 (rows.length + 1) c7]) (by simp [results, Try.results61, go_sem, k0, k1]) rfl ?_
      exact ⟨_, ⟨sorts, rows ++ [[]]⟩, _, rfl, ⟨_, rfl, d2.base (by omega)⟩, by have := HSB.out; simp; omega, d3, by omega, d4⟩
    · have e0' : (x6 == 0) = false := by rw [beq_eq_false_iff_ne]; exact k0
      have e1' : (x6 == 1) = false := by rw [beq_eq_false_iff_ne]; exact k1
      have e2' : (x6 == 2) = false := by rw [beq_eq_false_iff_ne]; exact k2
      have hloc := HL3.out.loc
      have f0 := block_cell hloc 0
      have f1 := block_cell hloc 1
      have f2 := block_free hloc 1
      simp at f0 f1
      have hb5 := (Array.getElem?_eq_some_iff.1 hloc).1
      have hrow : OInts (w6.alloc (.cells #[.int .i64 0, .int .i64 0, .int .i64 0, .int .i64 0] 3)) w6.heap.size (.slice (some ⟨w6.heap.size, 0, none⟩) 4 4) [0, 0, 0, 0] := World.ownsRow_lit w6 #[.int .i64 0, .int .i64 0, .int .i64 0, .int .i64 0] 4 (Nat.le_refl _) (by unfold maxLen; omega) rfl
      have HROW := Lib.hid hrow
      obtain ⟨us, h1, h2, h3, h4⟩ := HL1.out.own
      have H1 := Lib.hid h1
      have H2 := Lib.hid h2
      have H3 := Lib.hid h3
      have H4 := Lib.hid h4
      clear h1 h2 h3 h4 hrow
      have hgr6 := gr_alloc (gr_trans HG5.out HG6.out (fun x e => by injection e with e; exact .inl e.symm)) (.cells #[.int .i64 0, .int .i64 0, .int .i64 0, .int .i64 0] 3)
      have HGR := Lib.hid hgr6
      clear hgr6
      have hownU := (own_past H1.out HGR.out (by omega)).alloc (.cells #[.slice (some ⟨w6.heap.size, 0, none⟩) 4 4] 55)
      have f3 : ((w6.alloc (.cells #[.int .i64 0, .int .i64 0, .int .i64 0, .int .i64 0] 3)).alloc (.cells #[.slice (some ⟨w6.heap.size, 0, none⟩) 4 4] 55)).cell? ⟨w6.heap.size + 1, 0, none⟩ = some (.slice (some ⟨w6.heap.size, 0, none⟩) 4 4) := by
        rw [World.cell?_alloc_at _ _ _ _ (by simp)]; rfl
      go_wp2_with (at_builtin; refine wpList_append_own _ rfl _ _ 22 rfl (w.heap.size + 1) 55 i1 (.slice none 0 0) 1 24 Try.underlying22 hj hy0 hy1 hy2 rfl (by decide) _ _ _ rfl hownU ⟨w6.heap.size + 1, 0, none⟩ 1 1 [.slice (some ⟨w6.heap.size, 0, none⟩) 4 4] rfl rfl ?e1 ?e2 ?e3 ?e4 ?e5 ?_)
      any_goals first
        | exact new_one f3
        | (unfold maxLen; omega)
        | omega
        | (simp; omega)
        | (intro u hu; simp at hu; subst hu; rfl)
        | rfl
      intro v' w7 hown7 hgrow7 _
      have HO7 := Lib.hid (rows_push H1.out H2.out H3.out H4.out HGR.out (by omega) (by have := HG5.out.size; have := HG6.out.size; omega) (by omega) HROW.out hown7 hgrow7)
      obtain ⟨hloc7, hres7, -, -⟩ := loc_pushed HL3.out HLOW.out (.cells #[.int .i64 0, .int .i64 0, .int .i64 0, .int .i64 0] 3) hgrow7
      have HL7 := Lib.hid (loc_push HL3.out HLOW.out (.cells #[.int .i64 0, .int .i64 0, .int .i64 0, .int .i64 0] 3) hgrow7 HO7.out (fun k e => by rintro rfl; exact own_not hown7 hloc7 (by decide) e) (fun B x xs h => own_not h hloc7 (by decide)))
      obtain ⟨A7, c7, rfl, -⟩ := own_reads hown7
      have e0 := block_cell hloc7 0
      have e1 := block_cell hloc7 1
      have e2 := block_free hloc7 1
      have e3 := block_cell hres7 0
      have e4 := block_cell hres7 1
      have e5 := block_free hres7 0
      have e6 := block_free hres7 1
      simp at e0 e1 e3 e4
      clear f0 f1 f2 f3 hloc hloc7 hres7 hownU hown7 hgrow7
      go_wp2
      obtain ⟨d1, d2, d3, d4⟩ := loc_done HL7.out
      generalize ((w7.setCell ⟨w4.heap.size, 1, none⟩ (.slice A7 (rows.length + 1) c7)).setCell ⟨w.heap.size, 0, none⟩ (.int .i64 sorts)).setCell ⟨w.heap.size, 1, none⟩ (.slice A7 (rows.length + 1) c7) = w9 at d1 d2 d3 d4 ⊢
      have k0 := block_cell d1 0
      have k1 := block_cell d1 1
      simp at k0 k1
      refine bodyPost_ret (v := .agg #[.int .i64 sorts, .slice A7 (rows.length + 1) c7]) (by simp [results, Try.results61, go_sem, k0, k1]) rfl ?_
      exact ⟨_, ⟨sorts, rows ++ [[0, 0, 0, 0]]⟩, _, rfl, ⟨_, rfl, d2.base (by omega)⟩, by have := HSB.out; simp; omega, d3, by omega, d4⟩
theorem sig_any (g p : Nat) (n : Int) (w : World) (h : RRd w g p) (hp : p ≤ 10000000) (hn : 0 ≤ n) (hn2 : n ≤ 1000000) :
    Calls Try.prog 61 #[.pointer (some ⟨g, 0, none⟩), .int .i64 n] w (SigPost g p w) := by
  refine (sig_two g p n w h hp hn hn2).mono ?_
  rintro e w' ⟨v, s, q, a, b, c, d, f, k⟩
  exact ⟨v, s, q, a, b, c.1, d, f, k⟩
end

section
open Go.RowKit
set_option linter.unusedVariables false

theorem below_of_gr {w w' : World} {g : Nat} (h : w.grownBy w' (some g)) (hg : w.heap.size ≤ g) : Below w.heap.size w w' :=
  ⟨h.os, h.tape, h.output, h.size, fun k hk => h.block k hk (fun e => by injection e with e; omega)⟩

theorem below_of_gr' {w w' : World} {g B : Nat} (h : w.grownBy w' (some g)) (hg : B ≤ g) (hB : B ≤ w.heap.size := by omega) : Below B w w' :=
  ⟨h.os, h.tape, h.output, h.size, fun k hk => h.block k (by omega) (fun e => by injection e with e; omega)⟩
theorem gr_drew {w w' : World} {row : Option Nat} (h : w.drew.grownBy w' row) : w.grownBy w' row := ⟨h.os, h.tape, h.output, h.size, h.block⟩
def DrawPost (w : World) (e : Ending) (w' : World) : Prop :=
  ∃ (v : Value) (s : MSig), e = .returned v ∧ OSig w' w.heap.size v s ∧ s.ops.length ≤ 5 ∧ Below w.heap.size w w'

def OpOfPost (g p : Nat) (w : World) (e : Ending) (w' : World) : Prop :=
  ∃ (v : Value) (s : MSig) (q : Nat) (op : Int), e = .returned (.tuple #[v, .int .i64 op]) ∧ OSig w' w.heap.size v s ∧ s.ops.length ≤ 5 ∧ RRd w' g q ∧ q ≤ p + 40 ∧ w.grownBy w' (some g)

/-- bytes that came in, behind new blocks of the call's own -/
theorem bytes_alloc {w w' : World} {v : Value} {bs : List Int} (h : RBytes w w.heap.size v bs) (hb : Below w.heap.size w w') : RBytes w' w'.heap.size v bs := by
  have hs := hb.size
  obtain ⟨A, c, e, h1, h2, h3⟩ := h
  exact ⟨A, c, e, h1, h2, fun j x hj => by obtain ⟨l, u, b, o, e, hM, hc⟩ := h3 j x hj; exact ⟨l, u, b, o, e, by omega, cell_keep hb hc⟩⟩

/-- the result cells, written at the end of a draw -/
theorem res_done {w w2 : World} {b B : Nat} {sorts : Int} {u : Value} {rows : List (List Int)} (hres : w2.heap[b]? = some (.cells #[.int .i64 0, .slice none 0 0] 33 (0, 0))) (ho : ORows w2 B u rows) (hB : b < B) (hb : Below w.heap.size w w2) (hw : w.heap.size ≤ b) :
    let w3 := (w2.setCell ⟨b, 0, none⟩ (.int .i64 sorts)).setCell ⟨b, 1, none⟩ u
    w3.heap[b]? = some (.cells #[.int .i64 sorts, u] 33 (0, 0)) ∧ ORows w3 B u rows ∧ Below w.heap.size w w3 := by
  intro w3
  exact ⟨block_set (block_set hres 0 _) 1 u, (ho.setLow hB _ _).setLow hB _ _, (hb.setCell hw _).setCell hw _⟩

def DrawOpPost (w : World) (e : Ending) (w' : World) : Prop :=
  ∃ (v : Value) (s : MSig) (op : Int), e = .returned (.tuple #[v, .int .i64 op]) ∧ OSig w' w.heap.size v s ∧ s.ops.length ≤ 5 ∧ Below w.heap.size w w'
end

section
open Go.RowKit
set_option linter.unusedVariables false

theorem sameInts_any (v v' : Value) (xs ys : List Int) (w : World) (h : RInts w v xs) (h' : RInts w v' ys) :
    Calls Try.prog 99 #[v, v'] w fun e w' => e = .returned (.bool (sameI xs ys)) ∧ Drawn w w' := by
  have H := Lib.hid h
  have H' := Lib.hid h'
  have hn := h.len
  have hn' := h'.len
  obtain ⟨A, c, rfl, -⟩ := h.form
  obtain ⟨A', c', rfl, -⟩ := h'.form
  clear h h'
  by_cases hl : xs.length = ys.length
  · have hl' : ((xs.length : Int) != (ys.length : Int)) = false := by simp [hl]
    have HL := Lib.hid hl
    have hle : xs.length ≤ ys.length := by omega
    have hge : ys.length ≤ xs.length := by omega
    clear hl
    go_enter Try.func99, Try.ntmps99
    go_wp2
    go_loopw [5] (fun i wr => ∃ k : Nat, k ≤ xs.length ∧ i = .int .i64 k ∧ xs.take k = ys.take k ∧ Drawn w wr) (fun i _ => xs.length - (intOf i).toNat)
    case atStart => exact ⟨0, Nat.zero_le _, rfl, rfl, Drawn.refl _⟩
    case round =>
      obtain ⟨k, hk, rfl, hb0, hd⟩ := hrel
      have hb := Lib.hid hb0
      have HD := Lib.hid hd
      clear hb0 hd
      by_cases hlt : k < xs.length
      · obtain ⟨b, o, c3, e, hx⟩ := (H.out.keep HD.out.below).at_ hlt
        cases e
        obtain ⟨b', o', c4, e, hy⟩ := (H'.out.keep HD.out.below).at_ (show k < ys.length by omega)
        cases e
        have hs1 : (k : Int) < (xs.length : Int) := by omega
        have hs2 : (k : Int) < (ys.length : Int) := by omega
        have HT := Lib.hid (take_succ_eq hlt (show k < ys.length by omega) hb.out)
        have HN := Lib.hid (ne_of_at hlt (show k < ys.length by omega))
        generalize xs[k] = x at hx HT HN
        generalize ys[k]'(by omega) = y at hy HT HN
        by_cases hxy : x = y
        · subst hxy
          have e1 : (x != x) = false := by simp
          have e2 : (x == x) = true := by simp
          go_wp2_with fail
          go_quiet (fail)
          go_wp2
          go_roundw
          case rel => exact ⟨k + 1, by omega, by go_num, HT.out (by simp), HD.out.more _⟩
          case measure => simp [intOf]; omega
        · have e1 : (x != y) = true := by simpa using hxy
          have e2 : (x == y) = false := by simpa using hxy
          have HXY := Lib.hid hxy
          clear hxy
          go_wp2_with fail
          go_quiet (fail)
          go_wp2
          go_ret
          exact ⟨ret_bool (by unfold sameI; simpa using (HN.out HXY.out)), HD.out.more _⟩
      · go_wp2
        go_ret
        have h := hb.out
        rw [take_all (by omega), take_all (by omega)] at h
        exact ⟨ret_bool (by unfold sameI; simpa using h), HD.out⟩
  · have hl' : ((xs.length : Int) != (ys.length : Int)) = true := by simp; omega
    have HL := Lib.hid hl
    clear hl
    go_enter Try.func99, Try.ntmps99
    go_wp2
    go_ret
    exact ⟨ret_bool (by unfold sameI; simp; rintro rfl; exact HL.out rfl), Drawn.refl _⟩

theorem sameInts_is (v v' : Value) (xs ys : List Int) (w : World) (b : Bool) (hb : sameI xs ys = b) (h : RInts w v xs) (h' : RInts w v' ys) :
    Calls Try.prog 99 #[v, v'] w fun e w' => e = .returned (.bool b) ∧ Drawn w w' := by
  subst hb; exact sameInts_any v v' xs ys w h h'

theorem sameRows_any (v v' : Value) (xs ys : List (List Int)) (w : World) (h : RRows w v xs) (h' : RRows w v' ys) :
    Calls Try.prog 65 #[v, v'] w fun e w' => e = .returned (.bool (sameR xs ys)) ∧ Drawn w w' := by
  have H := Lib.hid h
  have H' := Lib.hid h'
  have hn := h.len
  have hn' := h'.len
  obtain ⟨A, c, rfl, -⟩ := h.form
  obtain ⟨A', c', rfl, -⟩ := h'.form
  clear h h'
  by_cases hl : xs.length = ys.length
  · have hl' : ((xs.length : Int) != (ys.length : Int)) = false := by simp [hl]
    have HL := Lib.hid hl
    have hle : xs.length ≤ ys.length := by omega
    have hge : ys.length ≤ xs.length := by omega
    clear hl
    go_enter Try.func65, Try.ntmps65
    go_wp2
    go_loopw [5] (fun i wr => ∃ k : Nat, k ≤ xs.length ∧ i = .int .i64 k ∧ xs.take k = ys.take k ∧ Drawn w wr) (fun i _ => xs.length - (intOf i).toNat)
    case atStart => exact ⟨0, Nat.zero_le _, rfl, rfl, Drawn.refl _⟩
    case round =>
      obtain ⟨k, hk, rfl, hb0, hd⟩ := hrel
      have hb := Lib.hid hb0
      have HD := Lib.hid hd
      clear hb0 hd
      by_cases hlt : k < xs.length
      · obtain ⟨b, o, c3, u, e, hx, hr⟩ := (H.out.keep HD.out.below).at_ hlt
        cases e
        obtain ⟨b', o', c4, u', e, hy, hr'⟩ := (H'.out.keep HD.out.below).at_ (show k < ys.length by omega)
        cases e
        have hs1 : (k : Int) < (xs.length : Int) := by omega
        have hs2 : (k : Int) < (ys.length : Int) := by omega
        have HT := Lib.hid (take_succ_eq hlt (show k < ys.length by omega) hb.out)
        have HN := Lib.hid (ne_of_at hlt (show k < ys.length by omega))
        generalize xs[k] = x at hr HT HN
        generalize ys[k]'(by omega) = y at hr' HT HN
        have HR := Lib.hid hr
        have HR' := Lib.hid hr'
        obtain ⟨A1, c1, rfl, -⟩ := hr.form
        obtain ⟨A2, c2, rfl, -⟩ := hr'.form
        clear hr hr'
        cases hxy : sameI x y with
        | true =>
          have HXY := Lib.hid hxy
          clear hxy
          go_wp2_with fail
          go_quiet ((go_at_call 99; exact quiet_drawn (sameInts_is _ _ _ _ _ _ HXY.out (HR.out.keep (below_drewN (Below.refl _ _) _)) (HR'.out.keep (below_drewN (Below.refl _ _) _)))))
          go_wp2
          go_roundw
          case rel => exact ⟨k + 1, by omega, by go_num, HT.out (by simpa [sameI] using HXY.out), HD.out.more _⟩
          case measure => simp [intOf]; omega
        | false =>
          have HXY := Lib.hid hxy
          clear hxy
          go_wp2_with fail
          go_quiet ((go_at_call 99; exact quiet_drawn (sameInts_is _ _ _ _ _ _ HXY.out (HR.out.keep (below_drewN (Below.refl _ _) _)) (HR'.out.keep (below_drewN (Below.refl _ _) _)))))
          go_wp2
          go_ret
          exact ⟨ret_bool (by unfold sameR; simpa using (HN.out (by simpa [sameI] using HXY.out))), HD.out.more _⟩
      · go_wp2
        go_ret
        have h := hb.out
        rw [take_all (by omega), take_all (by omega)] at h
        exact ⟨ret_bool (by unfold sameR; simpa using h), HD.out⟩
  · have hl' : ((xs.length : Int) != (ys.length : Int)) = true := by simp; omega
    have HL := Lib.hid hl
    clear hl
    go_enter Try.func65, Try.ntmps65
    go_wp2
    go_ret
    exact ⟨ret_bool (by unfold sameR; simp; rintro rfl; exact HL.out rfl), Drawn.refl _⟩


theorem sameSig_any (v v' : Value) (a b : MSig) (w : World) (h : RSig w v a) (h' : RSig w v' b) :
    Calls Try.prog 25 #[v, v'] w fun e w' => e = .returned (.bool (sameS a b)) ∧ Below w.heap.size w w' := by
  obtain ⟨u, rfl, hr⟩ := h
  obtain ⟨u', rfl, hr'⟩ := h'
  have hb2 : Below w.heap.size w ((w.alloc (.cells #[.int .i64 a.sorts, u] 33)).alloc (.cells #[.int .i64 b.sorts, u'] 33)) := (below_alloc _ _).alloc (by simp) _
  have HB := Lib.hid hb2
  have H := Lib.hid (hr.keep hb2)
  have H' := Lib.hid (hr'.keep hb2)
  clear hb2
  obtain ⟨A, c, rfl, -⟩ := hr.form
  obtain ⟨A', c', rfl, -⟩ := hr'.form
  clear hr hr'
  obtain ⟨s1, xs⟩ := a
  obtain ⟨s2, ys⟩ := b
  by_cases hs : s1 = s2
  · subst hs
    have e1 : (s1 == s1) = true := by simp
    go_enter Try.func25, Try.ntmps25
    go_wp2_with (go_at_call 65; refine (sameRows_any _ _ _ _ _ H.out H'.out).mono ?_; rintro e w1 ⟨rfl, hd⟩)
    go_ret
    exact ⟨ret_bool (by unfold sameS; simp), HB.out.trans (hd.below.mono (by simp; omega))⟩
  · have e1 : (s1 == s2) = false := by simpa using hs
    have HS := Lib.hid hs
    clear hs
    go_enter Try.func25, Try.ntmps25
    go_wp2
    go_ret
    exact ⟨ret_bool (by unfold sameS; simp [HS.out]), HB.out⟩
end

section
open Go.RowKit
set_option linter.unusedVariables false
set_option linter.unusedSimpArgs false

structure MModel where
  sizes : List Int
  tables : List (List Int)
def RModel (w : World) (v : Value) (m : MModel) : Prop := ∃ a0 a1, v = .agg #[a0, a1] ∧ RInts w a0 m.sizes ∧ RRows w a1 m.tables
/-- the row of the sizes lies below a block number, the tables from there on -/
def OModel (w : World) (B : Nat) (v : Value) (m : MModel) : Prop := ∃ a0 a1, v = .agg #[a0, a1] ∧ OInts w B a0 m.sizes ∧ ∃ C, B ≤ C ∧ (∀ k, a0.ownBlock = some k → k < C) ∧ ORows w C a1 m.tables
section
variable {w w' : World} {v : Value} {m : MModel} {B B' : Nat}
theorem RModel.keep (h : RModel w v m) (hb : Below w.heap.size w w') : RModel w' v m := by
  obtain ⟨a0, a1, rfl, h0, h1⟩ := h; exact ⟨a0, a1, rfl, h0.keep hb, h1.keep hb⟩
theorem OModel.keep (h : OModel w B v m) (hb : Below w.heap.size w w') : OModel w' B v m := by
  obtain ⟨a0, a1, rfl, h0, C, hC, hl, h1⟩ := h; exact ⟨a0, a1, rfl, h0.keep hb, C, hC, hl, h1.keep hb⟩
theorem OModel.base (h : OModel w B v m) (hB : B' ≤ B) : OModel w B' v m := by
  obtain ⟨a0, a1, rfl, h0, C, hC, hl, h1⟩ := h; exact ⟨a0, a1, rfl, h0.base hB, C, by omega, hl, h1⟩
theorem OModel.same (h : OModel w B v m) (hk : ∀ k, B ≤ k → k < w.heap.size → w'.heap[k]? = w.heap[k]?) : OModel w' B v m := by
  obtain ⟨a0, a1, rfl, h0, C, hC, hl, h1⟩ := h; exact ⟨a0, a1, rfl, h0.same hk, C, hC, hl, h1.same fun k q1 q2 => hk k (by omega) q2⟩
theorem OModel.reads (h : OModel w B v m) : RModel w v m := by
  obtain ⟨a0, a1, rfl, h0, C, hC, hl, h1⟩ := h; exact ⟨a0, a1, rfl, h0.reads, h1.reads⟩
theorem RModel.form (h : RModel w v m) : ∃ A0 c0 A1 c1, v = .agg #[.slice A0 m.sizes.length c0, .slice A1 m.tables.length c1] := by
  obtain ⟨a0, a1, rfl, h0, h1⟩ := h
  obtain ⟨A0, c0, rfl, -⟩ := h0.form
  obtain ⟨A1, c1, rfl, -⟩ := h1.form
  exact ⟨_, _, _, _, rfl⟩
theorem RModel.of {a0 a1 : Value} (h : RModel w (.agg #[a0, a1]) m) : RInts w a0 m.sizes ∧ RRows w a1 m.tables := by
  obtain ⟨a0', a1', he, h0, h1⟩ := h
  injection he with he
  simp at he
  obtain ⟨rfl, rfl⟩ := he
  exact ⟨h0, h1⟩
theorem RModel.mk {a0 a1 : Value} (h0 : RInts w a0 m.sizes) (h1 : RRows w a1 m.tables) : RModel w (.agg #[a0, a1]) m := ⟨a0, a1, rfl, h0, h1⟩
end
def FitsMd (m : MModel) : Prop := m.sizes.length ≤ 1048576 ∧ Fits m.tables
def sameMd (a b : MModel) : Bool := (sameI a.sizes b.sizes) && sameR a.tables b.tables
theorem sameMd_self (a : MModel) : sameMd a a = true := by unfold sameMd sameI sameR; simp
theorem sameMd_eq {a b : MModel} : sameMd a b = true ↔ a = b := by
  obtain ⟨x0, x1⟩ := a
  obtain ⟨y0, y1⟩ := b
  unfold sameMd sameI sameR
  simp [and_assoc]
end

section
open Go.RowKit
set_option linter.unusedVariables false
set_option linter.unusedSimpArgs false

/-- a row with its numbers replaced by those to which they are led; letters stay -/
def ledM (tq row : List Int) : List Int := row.map fun x => if x < 100 then tq.getD x.toNat 0 else x
def InTo (tq row : List Int) : Prop := ∀ x ∈ row, x < 100 → 0 ≤ x ∧ x < (tq.length : Int)
theorem ledM_len (tq row : List Int) : (ledM tq row).length = row.length := by simp [ledM]
theorem ledM_at {tq row : List Int} {k : Nat} (hk : k < row.length) : (ledM tq row)[k]? = some (if row[k] < 100 then tq.getD (row[k]).toNat 0 else row[k]) := by
  simp [ledM, List.getElem?_eq_getElem hk]
theorem ledM_take {tq row : List Int} {k : Nat} (hk : k < row.length) : ledM tq (row.take (k + 1)) = ledM tq (row.take k) ++ [if row[k] < 100 then tq.getD (row[k]).toNat 0 else row[k]] := by
  rw [List.take_succ_eq_append_getElem hk]; unfold ledM; rw [List.map_append]; rfl
theorem ledM_nil (tq : List Int) : ledM tq [] = [] := rfl
/-- the same of a row of sorts -/
def rowLed (tq row : List Int) : List Int := row.map fun x => tq.getD x.toNat 0
theorem rowLed_len (tq row : List Int) : (rowLed tq row).length = row.length := by simp [rowLed]
theorem rowLed_take {tq row : List Int} {k : Nat} (hk : k < row.length) : rowLed tq (row.take (k + 1)) = rowLed tq (row.take k) ++ [tq.getD (row[k]).toNat 0] := by
  rw [List.take_succ_eq_append_getElem hk]; unfold rowLed; rw [List.map_append]; rfl
theorem rowLed_led {tq row : List Int} (h : ∀ x ∈ row, x < 100) : rowLed tq row = ledM tq row := by
  unfold rowLed ledM
  refine List.map_congr_left fun x hx => ?_
  rw [if_pos (h x hx)]
def ledOp (a b : MSig) (m : MMap) (k : Nat) : Bool := (decide (0 ≤ m.ops.getD k 0) && decide (m.ops.getD k 0 < (b.ops.length : Int))) && decide (ledM m.sorts (a.ops.getD k []) = b.ops.getD (m.ops.getD k 0).toNat [])
def allLed (a b : MSig) (m : MMap) (n : Nat) : Bool := (List.range n).all (ledOp a b m)
theorem allLed_zero (a b : MSig) (m : MMap) : allLed a b m 0 = true := rfl
theorem allLed_succ (a b : MSig) (m : MMap) (n : Nat) : allLed a b m (n + 1) = (allLed a b m n && ledOp a b m n) := by
  unfold allLed; rw [List.range_succ, List.all_append]; simp
theorem allLed_bad {a b : MSig} {m : MMap} {k n : Nat} (hk : k < n) (h : ledOp a b m k = false) : allLed a b m n = false := by
  unfold allLed; rw [List.all_eq_false]; exact ⟨k, List.mem_range.2 hk, by simp [h]⟩
def mapOkB (a b : MSig) (m : MMap) : Bool := ((((validB a && validB b) && decide ((m.sorts.length : Int) = a.sorts)) && decide (m.ops.length = a.ops.length)) && belowB m.sorts b.sorts) && allLed a b m m.ops.length
theorem mapOk_no1 {a b : MSig} {m : MMap} (h : validB a = false) : mapOkB a b m = false := by unfold mapOkB; simp [h]
theorem mapOk_no2 {a b : MSig} {m : MMap} (h : validB b = false) : mapOkB a b m = false := by unfold mapOkB; simp [h]
theorem mapOk_no3 {a b : MSig} {m : MMap} (h : ¬ (m.sorts.length : Int) = a.sorts) : mapOkB a b m = false := by unfold mapOkB; simp [h]
theorem mapOk_no4 {a b : MSig} {m : MMap} (h : ¬ m.ops.length = a.ops.length) : mapOkB a b m = false := by unfold mapOkB; simp [h]
theorem mapOk_no5 {a b : MSig} {m : MMap} (h : belowB m.sorts b.sorts = false) : mapOkB a b m = false := by unfold mapOkB; simp [h]
theorem mapOk_no6 {a b : MSig} {m : MMap} {k : Nat} (hk : k < m.ops.length) (h : ledOp a b m k = false) : mapOkB a b m = false := by unfold mapOkB; simp [allLed_bad hk h]
theorem mapOk_yes {a b : MSig} {m : MMap} (h1 : validB a = true) (h2 : validB b = true) (h3 : (m.sorts.length : Int) = a.sorts) (h4 : m.ops.length = a.ops.length) (h5 : belowB m.sorts b.sorts = true) (h6 : allLed a b m m.ops.length = true) : mapOkB a b m = true := by
  unfold mapOkB; simp [h1, h2, h3, h4, h5]; rw [← h4]; exact h6
structure MapFacts (a b : MSig) (m : MMap) : Prop where
  va : validB a = true
  vb : validB b = true
  sl : (m.sorts.length : Int) = a.sorts
  ol : m.ops.length = a.ops.length
  sb : ∀ x ∈ m.sorts, 0 ≤ x ∧ x < b.sorts
  ob : ∀ x ∈ m.ops, 0 ≤ x ∧ x < (b.ops.length : Int)
  oo : ∀ (k : Nat) (h1 : k < a.ops.length) (h2 : k < m.ops.length), b.ops[(m.ops[k]).toNat]? = some (ledM m.sorts a.ops[k])
theorem mapOk_facts {a b : MSig} {m : MMap} (h : mapOkB a b m = true) : MapFacts a b m := by
  unfold mapOkB at h
  simp only [Bool.and_eq_true, decide_eq_true_eq] at h
  obtain ⟨⟨⟨⟨⟨h1, h2⟩, h3⟩, h4⟩, h5⟩, h6⟩ := h
  have op : ∀ k, (h : k < m.ops.length) → ((0 ≤ m.ops[k] ∧ m.ops[k] < (b.ops.length : Int)) ∧ ledM m.sorts (a.ops.getD k []) = b.ops.getD (m.ops[k]).toNat []) := by
    intro k hk
    unfold allLed at h6
    rw [List.all_eq_true] at h6
    have := h6 k (List.mem_range.2 hk)
    unfold ledOp at this
    rw [getD_at _ hk] at this
    simpa using this
  refine ⟨h1, h2, h3, h4, by simpa [belowB] using h5, fun x hx => ?_, fun k hk1 hk2 => ?_⟩
  · obtain ⟨k, hk, rfl⟩ := List.getElem_of_mem hx
    exact (op k hk).1
  · obtain ⟨⟨p, q⟩, r⟩ := op k hk2
    rw [getD_at _ hk1] at r
    have hl : (m.ops[k]).toNat < b.ops.length := by omega
    rw [getD_at _ hl] at r
    rw [List.getElem?_eq_getElem hl, r]
theorem facts_ok {a b : MSig} {m : MMap} (h : MapFacts a b m) : mapOkB a b m = true := by
  refine mapOk_yes h.va h.vb h.sl h.ol (by simpa [belowB] using h.sb) ?_
  unfold allLed
  rw [List.all_eq_true]
  intro k hk
  have hk := List.mem_range.1 hk
  have hka : k < a.ops.length := by rw [← h.ol]; exact hk
  have hb := h.ob _ (List.getElem_mem hk)
  have ho := h.oo k hka hk
  unfold ledOp
  rw [getD_at _ hk, getD_at _ hka]
  have hl : (m.ops[k]).toNat < b.ops.length := by omega
  rw [getD_at _ hl]
  rw [List.getElem?_eq_getElem hl] at ho
  injection ho with ho
  simp [hb.1, hb.2, ho]
/-- sorts are led -/
theorem MapFacts.sorts_in {a b : MSig} {m : MMap} (h : MapFacts a b m) {row : List Int} (hr : ∀ x ∈ row, 0 ≤ x ∧ x < a.sorts) : InTo m.sorts row := fun x hx _ => by
  have := hr x hx; have := h.sl; omega
theorem MapFacts.op_in {a b : MSig} {m : MMap} (h : MapFacts a b m) {k : Nat} (hk : k < a.ops.length) : InTo m.sorts a.ops[k] := h.sorts_in (valid_row h.va hk).2.2
def noMap : MMap := ⟨[], []⟩
def countM (n : Nat) : List Int := (List.range n).map fun (i : Nat) => (i : Int)
theorem countM_len (n : Nat) : (countM n).length = n := by simp [countM]
theorem countM_at {n k : Nat} (h : k < n) : (countM n)[k]? = some (k : Int) := by simp [countM, h]
theorem countM_succ (n : Nat) : countM (n + 1) = countM n ++ [(n : Int)] := by unfold countM; rw [List.range_succ]; simp
def selfM (s : MSig) : MMap := if validB s then ⟨countM s.sorts.toNat, countM s.ops.length⟩ else noMap
def thenM (a b c : MSig) (m n : MMap) : MMap × Bool := if mapOkB a b m && mapOkB b c n then (⟨ledM n.sorts m.sorts, ledM n.ops m.ops⟩, true) else (noMap, false)
def mapTermM (a b : MSig) (m : MMap) (vars t : List Int) : List Int × List Int × Bool := if mapOkB a b m && decide (0 ≤ sortM a vars t) then (ledM m.sorts vars, ledM m.ops t, true) else ([], [], false)
def noEq : MEq := ⟨[], [], []⟩
def ledE (m : MMap) (e : MEq) : MEq := ⟨ledM m.sorts e.vars, ledM m.ops e.left, ledM m.ops e.right⟩
def mapEqM (a b : MSig) (m : MMap) (e : MEq) : MEq × Bool := if mapOkB a b m && eqOkB a e then (ledE m e, true) else (noEq, false)
end
end Go.Proofs.Ytmmnamjgpfkabab
