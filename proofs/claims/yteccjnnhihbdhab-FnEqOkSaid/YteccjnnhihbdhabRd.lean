/- The reader of the draws: l20Open, pick, odd. -/
import Derived.Test.YteccjnnhihbdhabBase
import Derived.Laws.BitsAllLaws
import Derived.Laws.BitsLemmas
import Derived.Deep.CutRange
namespace Go.Proofs.Yteccjnnhihbdhab
open Go.RowKit
set_option linter.unusedVariables false

/-- bytes, in blocks below M -/
def RBytes (w : World) (M : Nat) (v : Value) (xs : List Int) : Prop :=
  ∃ A c, v = .slice A xs.length c ∧ xs.length ≤ c ∧ c ≤ maxLen ∧ ∀ j x, xs[j]? = some x → 0 ≤ x ∧ x ≤ 255 ∧ ∃ b o, A = some ⟨b, o, none⟩ ∧ b < M ∧ w.cell? ⟨b, o + j, none⟩ = some (.int .u8 x)
theorem RBytes.keepBut {w w' : World} {M : Nat} {v : Value} {xs : List Int} (h : RBytes w M v xs) (hk : ∀ b o x, b < M → w.cell? ⟨b, o, none⟩ = some (.int .u8 x) → w'.cell? ⟨b, o, none⟩ = some (.int .u8 x)) : RBytes w' M v xs := by
  obtain ⟨A, c, e, h1, h2, h3⟩ := h
  exact ⟨A, c, e, h1, h2, fun j x hj => by obtain ⟨l, u, b, o, e, hM, hc⟩ := h3 j x hj; exact ⟨l, u, b, o, e, hM, hk _ _ _ hM hc⟩⟩

/-- block g is a reader at place p; its bytes lie in blocks below g -/
def RRd (w : World) (g : Nat) (p : Nat) : Prop :=
  ∃ u bs, w.heap[g]? = some (.cells #[u, .int .i64 p] 108 (0, 0)) ∧ RBytes w g u bs

theorem RRd.cells {w : World} {g p : Nat} {u : Value} (h : w.heap[g]? = some (.cells #[u, .int .i64 p] 108 (0, 0))) :
    w.cell? ⟨g, 0, none⟩ = some u ∧ w.cell? ⟨g, 1, none⟩ = some (.int .i64 p) ∧ w.frozen? ⟨g, 1, none⟩ = false := by
  refine ⟨?_, ?_, ?_⟩ <;> simp [World.cell?, World.frozen?, h]

theorem ofInt_i64 (a : Nat) (ha : a < 9223372036854775808) : (BitVec.ofInt 64 (a : Int)).toNat = a := by
  rw [BitVec.ofInt_natCast, BitVec.toNat_ofNat]; exact Nat.mod_eq_of_lt (by omega)
theorem i64_xor_nat (a b : Nat) (ha : a < 9223372036854775808) (hb : b < 9223372036854775808) : bits .xor .i64 (a : Int) (b : Int) = ((a ^^^ b : Nat) : Int) := by
  have hx : a ^^^ b < 2 ^ 63 := Nat.xor_lt_two_pow (by omega) (by omega)
  show IntKind.i64.wrap ((BitVec.ofInt 64 (a : Int) ^^^ BitVec.ofInt 64 (b : Int)).toNat : Int) = _
  rw [BitVec.toNat_xor, ofInt_i64 a ha, ofInt_i64 b hb, IntKind.wrap_i64]
  omega

theorem after_set {w : World} {g p : Nat} {u : Value} {bs : List Int} (hg : w.heap[g]? = some (.cells #[u, .int .i64 p] 108 (0, 0))) (hbs : RBytes w g u bs) :
    let w2 := w.setCell ⟨g, 1, none⟩ (.int .i64 ((p : Int) + 1))
    w2.heap[g]? = some (.cells #[u, .int .i64 ((p + 1 : Nat) : Int)] 108 (0, 0)) ∧ RBytes w2 g u bs ∧ w.grownBy w2 (some g) := by
  intro w2
  have hg2 : w2.heap[g]? = some (.cells #[u, .int .i64 ((p + 1 : Nat) : Int)] 108 (0, 0)) := by
    show (w.setCell ⟨g, 1, none⟩ _).heap[g]? = _
    simp [World.setCell, Array.getElem?_modify, hg]
  refine ⟨hg2, hbs.keepBut fun b o x hM hc => ?_, ⟨rfl, rfl, rfl, by simp [w2, World.setCell], fun k _ hk => ?_⟩⟩
  · exact (World.cell?_of_block (Below.heap_setCell w ⟨g, 1, none⟩ _ b (by show b ≠ g; omega))).trans hc
  · exact Below.heap_setCell w ⟨g, 1, none⟩ _ k (by rintro rfl; exact hk rfl)

theorem RRd.drewN {w : World} {g p : Nat} (h : RRd w g p) (n : Nat) : RRd (w.drewN n) g p := h
theorem only_drewN {a w : World} {row : Option Nat} (h : a.grownBy w row) (n : Nat) : a.grownBy (w.drewN n) row := ⟨h.os, h.tape, h.output, h.size, h.block⟩

theorem RBytes.at_ {w : World} {M : Nat} {v : Value} {xs : List Int} (h : RBytes w M v xs) {k : Nat} (hk : k < xs.length) :
    ∃ b o c, v = .slice (some ⟨b, o, none⟩) xs.length c ∧ 0 ≤ xs[k] ∧ xs[k] ≤ 255 ∧ w.cell? ⟨b, o + k, none⟩ = some (.int .u8 xs[k]) := by
  obtain ⟨A, c, e, h1, h2, h3⟩ := h
  obtain ⟨l, u, b, o, rfl, -, hc⟩ := h3 k xs[k] (List.getElem?_eq_getElem hk)
  exact ⟨b, o, c, e, l, u, hc⟩

theorem pick_bound (y1 y2 p q : Int) (h1 : 0 ≤ y1 ∧ y1 ≤ 255) (h2 : 0 ≤ y2 ∧ y2 ≤ 255) (hp : 0 ≤ p) (hp2 : p ≤ 1000000000) (hq : 0 ≤ q) (hq2 : q ≤ p) :
    0 ≤ wrap64 (y1 * 131 + y2 * 1117 + p * 29 + wrap64 (wrap64 q * 53)) ∧ wrap64 (y1 * 131 + y2 * 1117 + p * 29 + wrap64 (wrap64 q * 53)) ≤ 1000000000000 := by
  rw [IntWalk.wrap64_in q ⟨by omega, by omega⟩, IntWalk.wrap64_in (q * 53) ⟨by omega, by omega⟩, IntWalk.wrap64_in _ ⟨by omega, by omega⟩]
  omega
theorem xor_bound (X : Int) (h0 : 0 ≤ X) (h1 : X ≤ 1000000000000) : ∃ z : Int, 0 ≤ z ∧ bits .xor .i64 X (X / 64) = z := by
  obtain ⟨m, rfl⟩ := Int.eq_ofNat_of_zero_le h0
  refine ⟨((m ^^^ (m / 64) : Nat) : Int), by omega, ?_⟩
  rw [show ((m : Int) / 64) = ((m / 64 : Nat) : Int) by omega]
  exact i64_xor_nat _ _ (by omega) (by omega)

/-- what pick answers -/
def PickPost (g p : Nat) (n : Int) (w : World) (e : Ending) (w' : World) : Prop :=
  ∃ x : Int, e = .returned (.int .i64 x) ∧ ((n < 1 → x = 0) ∧ (1 ≤ n → 0 ≤ x ∧ x < n)) ∧ RRd w' g (p + 1) ∧ w.grownBy w' (some g)
theorem pickPost_mod {g p m : Nat} {n z : Int} {w w2 : World} (hn : 1 ≤ n) (hz : 0 ≤ z) (R : RRd w2 g (p + 1)) (G : w.grownBy w2 (some g)) : PickPost g p n w (.returned (.int .i64 (z % n))) (w2.drewN m) :=
  ⟨_, rfl, ⟨fun h => by omega, fun _ => ⟨Int.emod_nonneg _ (by omega), Int.emod_lt_of_pos _ (by omega)⟩⟩, R, only_drewN G m⟩

/-- the world behind 'r.p = r.p + 1', and what is known of it -/
structure Step1 (w w2 : World) (g p : Nat) (A : Option Addr) (c : Nat) (bs : List Int) : Prop where
  c0 : w2.cell? ⟨g, 0, none⟩ = some (.slice A bs.length c)
  rd : RRd w2 g (p + 1)
  grown : w.grownBy w2 (some g)
  bytes : RBytes w2 g (.slice A bs.length c) bs

theorem step1 {w : World} {g p : Nat} (h : RRd w g p) : ∃ A c bs, bs.length ≤ 9223372036854775807 ∧ w.cell? ⟨g, 0, none⟩ = some (.slice A bs.length c) ∧ w.cell? ⟨g, 1, none⟩ = some (.int .i64 p) ∧ w.frozen? ⟨g, 1, none⟩ = false ∧
    Step1 w (w.setCell ⟨g, 1, none⟩ (.int .i64 ((p : Int) + 1))) g p A c bs := by
  obtain ⟨u, bs, hg, hbs⟩ := h
  obtain ⟨f0, f1, f2⟩ := RRd.cells hg
  obtain ⟨hg2, hb2, hgr⟩ := after_set hg hbs
  obtain ⟨e0, e1, e2⟩ := RRd.cells hg2
  have hb2' := hb2
  obtain ⟨A, c, rfl, h1, h2, hb⟩ := hbs
  exact ⟨A, c, bs, by rw [maxLen_eq] at h2; omega, f0, f1, f2, e0, ⟨_, bs, hg2, hb2⟩, hgr, hb2'⟩

set_option maxRecDepth 100000 in
theorem pick_low (g p : Nat) (n : Int) (w : World) (h : RRd w g p) (hp : p ≤ 1000000000) (c1 : n < 1) :
    Calls Try.prog 86 #[.pointer (some ⟨g, 0, none⟩), .int .i64 n] w (PickPost g p n w) := by
  obtain ⟨A, c, bs, hlen, f0, f1, f2, HS0⟩ := step1 h
  have HS := Lib.hid HS0
  clear h HS0
  go_enter Try.func86, Try.ntmps86
  go_wp2
  go_ret
  exact ⟨_, rfl, ⟨fun _ => rfl, fun h => by omega⟩, HS.out.rd, HS.out.grown⟩

set_option maxRecDepth 100000 in
theorem pick_empty (g p : Nat) (n : Int) (w : World) (hp : p ≤ 1000000000) (c1 : 1 ≤ n) {A : Option Addr} {c : Nat} {bs : List Int} (hlen : bs.length ≤ 9223372036854775807)
    (f0 : w.cell? ⟨g, 0, none⟩ = some (.slice A bs.length c)) (f1 : w.cell? ⟨g, 1, none⟩ = some (.int .i64 p)) (f2 : w.frozen? ⟨g, 1, none⟩ = false) (HS : Hid (Step1 w (w.setCell ⟨g, 1, none⟩ (.int .i64 ((p : Int) + 1))) g p A c bs))
    (c4 : (((bs.length : Nat) : Int) == 0) = true) :
    Calls Try.prog 86 #[.pointer (some ⟨g, 0, none⟩), .int .i64 n] w (PickPost g p n w) := by
  go_enter Try.func86, Try.ntmps86
  go_wp2
  go_ret
  exact ⟨_, rfl, ⟨fun _ => rfl, fun h => ⟨Int.le_refl _, by omega⟩⟩, HS.out.rd, HS.out.grown⟩

set_option maxRecDepth 100000 in
theorem pick_in (g p : Nat) (n : Int) (w : World) (hp : p ≤ 1000000000) (c1 : 1 ≤ n) {A : Option Addr} {c : Nat} {bs : List Int} (hlen : bs.length ≤ 9223372036854775807)
    (f0 : w.cell? ⟨g, 0, none⟩ = some (.slice A bs.length c)) (f1 : w.cell? ⟨g, 1, none⟩ = some (.int .i64 p)) (f2 : w.frozen? ⟨g, 1, none⟩ = false) (HS : Hid (Step1 w (w.setCell ⟨g, 1, none⟩ (.int .i64 ((p : Int) + 1))) g p A c bs))
    (c4 : (((bs.length : Nat) : Int) == 0) = false) (c3 : p < bs.length) :
    Calls Try.prog 86 #[.pointer (some ⟨g, 0, none⟩), .int .i64 n] w (PickPost g p n w) := by
  obtain ⟨b, o, c', e, l1, u1, k1⟩ := HS.out.bytes.at_ c3
  cases e
  generalize bs[p] = y1 at l1 u1 k1
  go_enter Try.func86, Try.ntmps86
  go_upto_region 6 with (fail)
  generalize w.setCell ⟨g, 1, none⟩ (.int .i64 ((p : Int) + 1)) = w2 at HS k1 ⊢
  have f3 := HS.out.c0
  go_wp2
  go_ret
  exact pickPost_mod (m := 0) c1 l1 HS.out.rd HS.out.grown

set_option maxHeartbeats 800000 in
set_option maxRecDepth 100000 in
theorem pick_out (g p : Nat) (n : Int) (w : World) (hp : p ≤ 1000000000) (c1 : 1 ≤ n) {A : Option Addr} {c : Nat} {bs : List Int} (hlen : bs.length ≤ 9223372036854775807)
    (f0 : w.cell? ⟨g, 0, none⟩ = some (.slice A bs.length c)) (f1 : w.cell? ⟨g, 1, none⟩ = some (.int .i64 p)) (f2 : w.frozen? ⟨g, 1, none⟩ = false) (HS : Hid (Step1 w (w.setCell ⟨g, 1, none⟩ (.int .i64 ((p : Int) + 1))) g p A c bs))
    (c4 : (((bs.length : Nat) : Int) == 0) = false) (c3 : ¬ p < bs.length) (c2' : 0 < bs.length) :
    Calls Try.prog 86 #[.pointer (some ⟨g, 0, none⟩), .int .i64 n] w (PickPost g p n w) := by
  go_enter Try.func86, Try.ntmps86
  go_wp2
  generalize w.setCell ⟨g, 1, none⟩ (.int .i64 ((p : Int) + 1)) = w2 at HS
  obtain ⟨b, o, c', e, l1, u1, k1⟩ := HS.out.bytes.at_ (k := p % bs.length) (Nat.mod_lt _ c2')
  obtain ⟨b', o', c'', e', l2, u2, k2⟩ := HS.out.bytes.at_ (k := (p * 7 + 3) % bs.length) (Nat.mod_lt _ c2')
  cases e
  cases e'
  generalize bs[p % bs.length]'(Nat.mod_lt _ c2') = y1 at l1 u1 k1
  generalize bs[(p * 7 + 3) % bs.length]'(Nat.mod_lt _ c2') = y2 at l2 u2 k2
  have t0 := HS.out.c0
  have t1 : (p : Int) % (bs.length : Int) = ((p % bs.length : Nat) : Int) := (Int.natCast_emod _ _).symm
  have t2 : IntKind.i64.wrap ((p : Int) * 7) = (p : Int) * 7 := by rw [IntKind.wrap_i64]; omega
  have t3 : IntKind.i64.wrap ((p : Int) * 7 + 3) = (p : Int) * 7 + 3 := by rw [IntKind.wrap_i64]; omega
  have t4 : ((p : Int) * 7 + 3) % (bs.length : Int) = (((p * 7 + 3) % bs.length : Nat) : Int) := by rw [Int.natCast_emod]; rfl
  have t5 : p % bs.length < bs.length := Nat.mod_lt p c2'
  have t6 : (p * 7 + 3) % bs.length < bs.length := Nat.mod_lt (p * 7 + 3) c2'
  generalize p % bs.length = i1 at t1 t5 k1
  generalize (p * 7 + 3) % bs.length = i2 at t4 t6 k2
  have t7 : (i1 : Int) < (bs.length : Int) := by omega
  have t8 : (i2 : Int) < (bs.length : Int) := by omega
  have t9 : (0 : Int) ≤ (p : Int) * 7 + 3 := by omega
  go_quiet (fail)
  clear t0 t1 t2 t3 t4 t5 t6 t7 t8 t9
  have hq1 : 0 ≤ (p : Int) / (bs.length : Int) := Int.ediv_nonneg (by omega) (by omega)
  have hq2 : (p : Int) / (bs.length : Int) ≤ (p : Int) := Int.ediv_le_self _ (by omega)
  have hX := pick_bound y1 y2 (p : Int) ((p : Int) / (bs.length : Int)) ⟨l1, u1⟩ ⟨l2, u2⟩ (by omega) (by omega) hq1 hq2
  generalize wrap64 (y1 * 131 + y2 * 1117 + (p : Int) * 29 + wrap64 (wrap64 ((p : Int) / (bs.length : Int)) * 53)) = X at hX
  obtain ⟨z, hz0, hz⟩ := xor_bound X hX.1 hX.2
  clear hq1 hq2 k1 k2
  go_wp2
  go_ret
  exact pickPost_mod c1 hz0 HS.out.rd HS.out.grown

theorem pick_any (g p : Nat) (n : Int) (w : World) (h : RRd w g p) (hp : p ≤ 1000000000) :
    Calls Try.prog 86 #[.pointer (some ⟨g, 0, none⟩), .int .i64 n] w (PickPost g p n w) := by
  by_cases c1 : n < 1
  · exact pick_low g p n w h hp c1
  · obtain ⟨A, c, bs, hlen, f0, f1, f2, HS⟩ := step1 h
    by_cases c2 : bs.length = 0
    · exact pick_empty g p n w hp (by omega) hlen f0 f1 f2 HS (by rw [beq_iff_eq]; omega)
    · by_cases c3 : p < bs.length
      · exact pick_in g p n w hp (by omega) hlen f0 f1 f2 HS (by rw [beq_eq_false_iff_ne]; omega) c3
      · exact pick_out g p n w hp (by omega) hlen f0 f1 f2 HS (by rw [beq_eq_false_iff_ne]; omega) c3 (by omega)
end Go.Proofs.Yteccjnnhihbdhab
