/- FnMadeOf answers true at every slice of bytes. No condition. -/
import Derived.Test.YtkhabmoidpgapaaKe70b5955
namespace Go.Proofs.Ytkhabmoidpgapaa
open Go.ChangeShapes Go.WideShapes Go.ChangeAt Go.RowKit
set_option linter.unusedVariables false
set_option linter.unusedSimpArgs false

theorem bel_moreM {a b c : World} {row : Option Nat} (hb : Below a.heap.size a b) (hg : b.grownBy c row) (hr : ∀ k, row = some k → a.heap.size ≤ k) : Below a.heap.size a c :=
  ⟨hg.os.trans hb.os, hg.tape.trans hb.tape, hg.output.trans hb.output, Nat.le_trans hb.size hg.size, fun k hk => (hg.block k (Nat.lt_of_lt_of_le hk hb.size) (fun e => by have := hr k e.symm; omega)).trans (hb.block k hk)⟩
theorem full_take {m : MModel} {k : Nat} (hk : k < m.sizes.length) : (fullM m).take (k + 1) = (fullM m).take k ++ [2 ^ (m.sizes[k]).toNat - 1] := by
  rw [List.take_succ_eq_append_getElem (show k < (fullM m).length by simpa [fullM] using hk)]
  simp [fullM]
theorem full_take_len {m : MModel} {k : Nat} (hk : k ≤ m.sizes.length) : ((fullM m).take k).length = k := by
  rw [List.length_take]; simp [fullM]; omega
set_option maxHeartbeats 3200000 in
set_option maxRecDepth 100000 in
theorem walk_FnMadeOf (v : Value) (bs : List Int) (w : World) (h : RBytes w w.heap.size v bs) :
    Calls Try.prog 7 #[v] w fun e w' => e = .returned (.bool true) ∧ Below w.heap.size w w' := by
  have HW := Lib.hid h
  obtain ⟨A, c, rfl, hc1, hc2, -⟩ := h
  rw [maxLen_eq] at hc2
  by_cases hl : 1048576 < bs.length
  · go_enter Try.func7, Try.ntmps7
    go_wp2
    go_ret
    exact ⟨rfl, Below.refl _ _⟩
  · obtain ⟨i0, hi0, hz0, hz1, hz2⟩ := info_parts Try.info_int
    go_enter Try.func7, Try.ntmps7
    go_wp2_with fail
    refine (drawMadeOf_any _ bs _ HW.out).mono ?_
    rintro x w1 ⟨sv, mv, vv, s, m, sets, rfl, os, om, hf, ov, hvl, hb1⟩
    obtain ⟨Av, cv, rfl, -⟩ := own_reads ov
    have HF := Lib.hid hf
    have HB1 := Lib.hid hb1
    have HV0 := Lib.hid ov.reads
    have hh1 := os.reads
    have hh2 := om.reads
    clear hf hb1 os om ov
    obtain ⟨Asa, csa, rfl⟩ := hh1.form
    obtain ⟨Ama, cma, Amb, cmb, rfl⟩ := hh2.form
    have hb : Below w1.heap.size w1 ((w1.alloc (.cells #[.int .i64 s.sorts, .slice Asa s.ops.length csa] 25)).alloc (.cells #[.slice Ama m.sizes.length cma, .slice Amb m.tables.length cmb] 28)) := (below_alloc _ _).alloc (by simp) _
    have HB := Lib.hid hb
    have hsz : ((w1.alloc (.cells #[.int .i64 s.sorts, .slice Asa s.ops.length csa] 25)).alloc (.cells #[.slice Ama m.sizes.length cma, .slice Amb m.tables.length cmb] 28)).heap.size = w1.heap.size + 2 := by simp
    have Hs := Lib.hid (hh1.keep hb)
    have s0 := cell_keep (below_alloc (w1.alloc (.cells #[.int .i64 s.sorts, .slice Asa s.ops.length csa] 25)) (.cells #[.slice Ama m.sizes.length cma, .slice Amb m.tables.length cmb] 28)) (bx_at (w1) #[.int .i64 s.sorts, .slice Asa s.ops.length csa] 25 (k := 0) rfl)
    have s1 := cell_keep (below_alloc (w1.alloc (.cells #[.int .i64 s.sorts, .slice Asa s.ops.length csa] 25)) (.cells #[.slice Ama m.sizes.length cma, .slice Amb m.tables.length cmb] 28)) (bx_at (w1) #[.int .i64 s.sorts, .slice Asa s.ops.length csa] 25 (k := 1) rfl)
    have Hm := Lib.hid (hh2.keep hb)
    have m0 := bx_at (w1.alloc (.cells #[.int .i64 s.sorts, .slice Asa s.ops.length csa] 25)) #[.slice Ama m.sizes.length cma, .slice Amb m.tables.length cmb] 28 (k := 0) rfl
    have m1 := bx_at (w1.alloc (.cells #[.int .i64 s.sorts, .slice Asa s.ops.length csa] 25)) #[.slice Ama m.sizes.length cma, .slice Amb m.tables.length cmb] 28 (k := 1) rfl
    simp only [World.size_alloc] at m0 m1
    generalize hW : (w1.alloc (.cells #[.int .i64 s.sorts, .slice Asa s.ops.length csa] 25)).alloc (.cells #[.slice Ama m.sizes.length cma, .slice Amb m.tables.length cmb] 28) = W at HB hsz Hs s0 s1 Hm m0 m1
    clear hb hh1 hh2
    have HVV := Lib.hid (HV0.out.keep HB.out)
    obtain ⟨made, hmade⟩ : ∃ l, madeM s m sets = l := ⟨_, rfl⟩
    have HMD := Lib.hid hmade
    have hml : made.length ≤ 3 := by rw [← hmade]; exact made_len s m sets
    have HSI := Lib.hid (show sameI made made = true by unfold sameI; simp)
    clear hmade hsz
    go_wp2_with fail
    clear hW
    refine (madeOf_any s m sets _ _ _ _ Hs.out Hm.out HVV.out).mono ?_
    rw [HMD.out]
    rintro x w3 ⟨u3, rfl, o3, hb⟩
    obtain ⟨A3, c3, rfl, -⟩ := own_reads o3
    have HU3 := Lib.hid o3.reads
    replace HB := Lib.hid (sz_keep HB.out hb)
    replace s0 := cell_keep hb s0
    replace s1 := cell_keep hb s1
    replace m0 := cell_keep hb m0
    replace m1 := cell_keep hb m1
    replace Hs := Lib.hid (Hs.out.keep hb)
    replace Hm := Lib.hid (Hm.out.keep hb)
    replace HVV := Lib.hid (HVV.out.keep hb)
    clear hb
    clear o3
    go_wp2_with fail
    refine (specMadeOf_any s m sets _ _ _ _ Hs.out Hm.out HVV.out).mono ?_
    rw [HMD.out]
    rintro x w4 ⟨u4, rfl, o4, hb⟩
    obtain ⟨A4, c4, rfl, -⟩ := own_reads o4
    have HU4 := Lib.hid o4.reads
    replace HB := Lib.hid (sz_keep HB.out hb)
    replace s0 := cell_keep hb s0
    replace s1 := cell_keep hb s1
    replace m0 := cell_keep hb m0
    replace m1 := cell_keep hb m1
    replace Hs := Lib.hid (Hs.out.keep hb)
    replace Hm := Lib.hid (Hm.out.keep hb)
    replace HVV := Lib.hid (HVV.out.keep hb)
    replace HU3 := Lib.hid (HU3.out.keep hb)
    clear hb
    clear o4
    go_wp2_with fail
    refine (sameInts_any _ _ made made _ HU3.out HU4.out).mono ?_
    rw [HSI.out]
    rintro x w5 ⟨rfl, hd⟩
    have hb := hd.below
    clear hd
    replace HB := Lib.hid (sz_keep HB.out hb)
    replace s0 := cell_keep hb s0
    replace s1 := cell_keep hb s1
    replace m0 := cell_keep hb m0
    replace m1 := cell_keep hb m1
    replace Hs := Lib.hid (Hs.out.keep hb)
    replace Hm := Lib.hid (Hm.out.keep hb)
    replace HVV := Lib.hid (HVV.out.keep hb)
    replace HU3 := Lib.hid (HU3.out.keep hb)
    clear hb
    by_cases hm0 : made.length = 0
    · have hm0' : ((made.length : Int) == 0) = true := by rw [beq_iff_eq]; omega
      have HM0 := Lib.hid hm0
      clear hm0
      go_wp2_with fail
      refine (alive_any _).mono ?_
      rintro x w9 ⟨rfl, hb⟩
      have HB9 := Lib.hid (sz_keep HB1.out (sz_keep HB.out hb))
      clear hb s0 s1 m0 m1
      go_wp2
      go_ret
      exact ⟨rfl, HB9.out⟩
    · have hm0' : ((made.length : Int) == 0) = false := by rw [beq_eq_false_iff_ne]; omega
      obtain ⟨h1, h2⟩ : modelB s m = true ∧ setsB m sets = true := by
        rw [← Bool.and_eq_true]
        cases hq : modelB s m && setsB m sets with
        | true => rfl
        | false => exact absurd (by rw [← HMD.out]; unfold madeM; rw [hq]; rfl) hm0
      have hfm := model_facts h1
      have HFM := Lib.hid hfm
      have hsi := setsB_iff.1 h2
      obtain ⟨hsub, hmi⟩ := made_sub s m h1 h2
      rw [HMD.out] at hsub hmi
      have HSUB := Lib.hid (show ∀ (k : Nat) (q1 : k < sets.length) (q2 : k < made.length), (sets[k] ≤ made[k] ∧ bits .and .i64 (made[k] - sets[k]) sets[k] = 0) ∧ 0 ≤ sets[k] ∧ made[k] < 8 from fun k q1 q2 => by
        have a8 := hsi.small hfm q1
        have b8 := hmi.small hfm q2
        have e := hsub k
        rw [getD_at _ q1, getD_at _ q2] at e
        exact ⟨bits_le a8.1 a8.2 b8.1 b8.2 e, a8.1, b8.2⟩)
      have HTW := Lib.hid (show madeM s m made = made by have := made_twice s m h1 h2; rw [HMD.out] at this; exact this)
      have HFU := Lib.hid (made_full s m h1)
      have HLS := Lib.hid hsi.len
      have HLM := Lib.hid hmi.len
      have hfew := hfm.sorts
      have hs3 : sets.length ≤ 3 := by have := hsi.len; omega
      have HCX := Lib.hid (And.intro s0 (And.intro s1 (And.intro m0 m1)))
      clear h1 h2 hfm hsi hsub hmi hm0
      have HE := Lib.hid (own_empty w5)
      have HBE := Lib.hid (below_alloc w5 (.cells #[] 3))
      go_wp2
      clear s0 s1 m0 m1 hm0'
      go_loopw [7, 8] (fun o i wr => ∃ (k : Nat) (A : Option Addr) (c : Nat), k ≤ sets.length ∧ i = .int .i64 k ∧ o = .slice A k c ∧ OInts wr w5.heap.size (.slice A k c) ((fullM m).take k) ∧ Below w5.heap.size w5 wr) (fun _ i _ => sets.length - (intOf i).toNat)
      case atStart => exact ⟨0, _, _, Nat.zero_le _, rfl, rfl, HE.out, HBE.out⟩
      case round =>
        obtain ⟨k, A, c, hk, rfl, rfl, ho, hbw⟩ := hrel
        obtain ⟨wo, hwo⟩ : ∃ x : World, x = wr := ⟨_, rfl⟩
        subst hwo
        have HO := Lib.hid ho
        have HBW := Lib.hid hbw
        have HTL := Lib.hid (full_take_len (m := m) (k := k) (by have := HLS.out; omega))
        clear ho
        by_cases hlt : k < sets.length
        · have hlt' : (k : Int) < (sets.length : Int) := by omega
          have hkm : k < made.length := by have := HLS.out; have := HLM.out; omega
          have hkm' : (k : Int) < (made.length : Int) := by omega
          have hkz : k < m.sizes.length := by have := HLS.out; omega
          have hkz' : (k : Int) < (m.sizes.length : Int) := by omega
          have hsb := HSUB.out k hlt hkm
          obtain ⟨ba, oa, ca, e, hx⟩ := (HVV.out.keep hbw).at_ hlt
          cases e
          obtain ⟨bm, om, cm, e, hy⟩ := (HU3.out.keep hbw).at_ hkm
          cases e
          obtain ⟨bz, oz, cz, e, hzc⟩ := (Hm.out.of.1.keep hbw).at_ hkz
          cases e
          have hzz := HFM.out.sz _ (List.getElem_mem hkz)
          have HTK := Lib.hid (full_take hkz)
          have m0 := cell_keep hbw HCX.out.2.2.1
          generalize sets[k] = a at hx hsb
          generalize made[k] = b at hy hsb
          generalize m.sizes[k] = z at hzc hzz HTK
          obtain ⟨⟨hab, hand⟩, ha0, hb8⟩ := hsb
          have hng : ¬ b < a := by omega
          have hsu : IntKind.i64.wrap (b - a) = b - a := by rw [IntKind.wrap_i64]; omega
          clear hbw hab ha0 hb8
          go_upto_if 65 with (go_quiet (fail))
          clear hx hy
          have HOQ := Lib.hid (show OInts (wo.drewN nq) w5.heap.size (.slice A k c) ((fullM m).take k) from HO.out)
          have HBQ := Lib.hid (sz_keep HBW.out (Drawn.below (w := wo) (wr := wo.drewN nq) ⟨nq, rfl⟩))
          replace m0 : (wo.drewN nq).cell? _ = _ := m0
          replace hzc : (wo.drewN nq).cell? _ = _ := hzc
          generalize wo.drewN nq = wq at HOQ HBQ m0 hzc ⊢
          rcases (show z = 1 ∨ z = 2 ∨ z = 3 by omega) with rfl | rfl | rfl
          · have he : (2 : Int) ^ (1 : Int).toNat - 1 = 1 := by decide
            rw [he] at HTK
            go_wp2_with (at_builtin; refine wpList_append_own _ rfl _ _ 26 rfl w5.heap.size 3 i0 (.int .i64 0) 1 8 Try.underlying26 hi0 hz0 hz1 hz2 rfl (by decide) (.slice A k c) k (((fullM m).take k).map (Value.int .i64)) rfl (by have := own_keep HOQ.out (below_alloc wq (.cells #[.int .i64 1] 3)); rw [HTL.out] at this; exact this) ⟨wq.heap.size, 0, none⟩ 1 1 ([(1 : Int)].map (Value.int .i64)) rfl (by simp) (led_new wq (1 : Int)) (ints_one _) (by rw [maxLen_eq]; omega) (by omega) (by have := HBQ.out.size; simp; omega) ?_)
            intro v6 w6 hv6 hg6 _
            have HO6 := Lib.hid (led_app (ps := (fullM m).take k) (rs := [(1 : Int)]) rfl (by rw [HTL.out, List.map_take]; exact hv6))
            obtain ⟨A6, c6, rfl, -⟩ := own_reads hv6
            have HB6 := Lib.hid (bel_moreM (HBQ.out.trans ((below_alloc wq (.cells #[.int .i64 1] 3)).mono HBQ.out.size)) hg6 (fun i e => (own_lt HOQ.out i e).1))
            clear hv6 hg6 m0 hzc he
            go_wp2
            go_roundw
            case rel => exact ⟨k + 1, A6, c6, by omega, by go_num, rfl, by rw [HTK.out]; exact HO6.out, HB6.out⟩
            case measure => simp [intOf]; omega
          · have he : (2 : Int) ^ (2 : Int).toNat - 1 = 3 := by decide
            rw [he] at HTK
            go_wp2_with (at_builtin; refine wpList_append_own _ rfl _ _ 26 rfl w5.heap.size 3 i0 (.int .i64 0) 1 8 Try.underlying26 hi0 hz0 hz1 hz2 rfl (by decide) (.slice A k c) k (((fullM m).take k).map (Value.int .i64)) rfl (by have := own_keep HOQ.out (below_alloc wq (.cells #[.int .i64 3] 3)); rw [HTL.out] at this; exact this) ⟨wq.heap.size, 0, none⟩ 1 1 ([(3 : Int)].map (Value.int .i64)) rfl (by simp) (led_new wq (3 : Int)) (ints_one _) (by rw [maxLen_eq]; omega) (by omega) (by have := HBQ.out.size; simp; omega) ?_)
            intro v6 w6 hv6 hg6 _
            have HO6 := Lib.hid (led_app (ps := (fullM m).take k) (rs := [(3 : Int)]) rfl (by rw [HTL.out, List.map_take]; exact hv6))
            obtain ⟨A6, c6, rfl, -⟩ := own_reads hv6
            have HB6 := Lib.hid (bel_moreM (HBQ.out.trans ((below_alloc wq (.cells #[.int .i64 3] 3)).mono HBQ.out.size)) hg6 (fun i e => (own_lt HOQ.out i e).1))
            clear hv6 hg6 m0 hzc he
            go_wp2
            go_roundw
            case rel => exact ⟨k + 1, A6, c6, by omega, by go_num, rfl, by rw [HTK.out]; exact HO6.out, HB6.out⟩
            case measure => simp [intOf]; omega
          · have he : (2 : Int) ^ (3 : Int).toNat - 1 = 7 := by decide
            rw [he] at HTK
            go_wp2_with (at_builtin; refine wpList_append_own _ rfl _ _ 26 rfl w5.heap.size 3 i0 (.int .i64 0) 1 8 Try.underlying26 hi0 hz0 hz1 hz2 rfl (by decide) (.slice A k c) k (((fullM m).take k).map (Value.int .i64)) rfl (by have := own_keep HOQ.out (below_alloc wq (.cells #[.int .i64 7] 3)); rw [HTL.out] at this; exact this) ⟨wq.heap.size, 0, none⟩ 1 1 ([(7 : Int)].map (Value.int .i64)) rfl (by simp) (led_new wq (7 : Int)) (ints_one _) (by rw [maxLen_eq]; omega) (by omega) (by have := HBQ.out.size; simp; omega) ?_)
            intro v6 w6 hv6 hg6 _
            have HO6 := Lib.hid (led_app (ps := (fullM m).take k) (rs := [(7 : Int)]) rfl (by rw [HTL.out, List.map_take]; exact hv6))
            obtain ⟨A6, c6, rfl, -⟩ := own_reads hv6
            have HB6 := Lib.hid (bel_moreM (HBQ.out.trans ((below_alloc wq (.cells #[.int .i64 7] 3)).mono HBQ.out.size)) hg6 (fun i e => (own_lt HOQ.out i e).1))
            clear hv6 hg6 m0 hzc he
            go_wp2
            go_roundw
            case rel => exact ⟨k + 1, A6, c6, by omega, by go_num, rfl, by rw [HTK.out]; exact HO6.out, HB6.out⟩
            case measure => simp [intOf]; omega
        · have hlt' : ¬ (k : Int) < (sets.length : Int) := by omega
          have HFE := Lib.hid (show (fullM m).take k = fullM m by rw [List.take_of_length_le]; simp [fullM]; have := HLS.out; omega)
          have HAL := Lib.hid (show RInts wo (.slice A k c) (fullM m) by rw [← HFE.out]; exact HO.out.reads)
          have s0 := cell_keep hbw HCX.out.1
          have s1 := cell_keep hbw HCX.out.2.1
          have m0 := cell_keep hbw HCX.out.2.2.1
          have m1 := cell_keep hbw HCX.out.2.2.2
          have HU := Lib.hid (HU3.out.keep hbw)
          replace Hs := Lib.hid (Hs.out.keep hbw)
          replace Hm := Lib.hid (Hm.out.keep hbw)
          replace HB := Lib.hid (sz_keep HB.out hbw)
          have HSF := Lib.hid (show sameI (fullM m) (fullM m) = true by unfold sameI; simp)
          clear hbw
          go_wp2_with fail
          refine (madeOf_any s m made _ _ _ _ Hs.out Hm.out HU.out).mono ?_
          rw [HTW.out]
          rintro x w6 ⟨u6, rfl, o6, hb⟩
          obtain ⟨A6, c6, rfl, -⟩ := own_reads o6
          have HU6 := Lib.hid o6.reads
          replace HB := Lib.hid (sz_keep HB.out hb)
          replace s0 := cell_keep hb s0
          replace s1 := cell_keep hb s1
          replace m0 := cell_keep hb m0
          replace m1 := cell_keep hb m1
          replace Hs := Lib.hid (Hs.out.keep hb)
          replace Hm := Lib.hid (Hm.out.keep hb)
          replace HU := Lib.hid (HU.out.keep hb)
          replace HAL := Lib.hid (HAL.out.keep hb)
          clear hb
          clear o6
          go_wp2_with fail
          refine (sameInts_any _ _ made made _ HU6.out HU.out).mono ?_
          rw [HSI.out]
          rintro x w7 ⟨rfl, hd⟩
          have hb := hd.below
          clear hd
          replace HB := Lib.hid (sz_keep HB.out hb)
          replace s0 := cell_keep hb s0
          replace s1 := cell_keep hb s1
          replace m0 := cell_keep hb m0
          replace m1 := cell_keep hb m1
          replace Hs := Lib.hid (Hs.out.keep hb)
          replace Hm := Lib.hid (Hm.out.keep hb)
          replace HAL := Lib.hid (HAL.out.keep hb)
          clear hb
          go_wp2_with fail
          refine (madeOf_any s m (fullM m) _ _ _ _ Hs.out Hm.out HAL.out).mono ?_
          rw [HFU.out]
          rintro x w8 ⟨u8, rfl, o8, hb⟩
          obtain ⟨A8, c8, rfl, -⟩ := own_reads o8
          have HU8 := Lib.hid o8.reads
          replace HB := Lib.hid (sz_keep HB.out hb)
          replace s0 := cell_keep hb s0
          replace s1 := cell_keep hb s1
          replace m0 := cell_keep hb m0
          replace m1 := cell_keep hb m1
          replace Hs := Lib.hid (Hs.out.keep hb)
          replace Hm := Lib.hid (Hm.out.keep hb)
          replace HAL := Lib.hid (HAL.out.keep hb)
          clear hb
          clear o8
          go_wp2_with fail
          refine (sameInts_any _ _ (fullM m) (fullM m) _ HU8.out HAL.out).mono ?_
          rw [HSF.out]
          rintro x w9 ⟨rfl, hd⟩
          have HB9 := Lib.hid (sz_keep HB1.out (sz_keep HB.out hd.below))
          clear hd s0 s1 m0 m1
          go_wp2
          go_ret
          exact ⟨rfl, HB9.out⟩

set_option maxRecDepth 100000 in
theorem lifted_FnMadeOf (os : Os) (started : os.Started) (H : Type) (enc : TypeId × Value → H) :
    ReturnsInHanded {} Try.checked os 7 .any (Rows.fnMadeOfSpec.pre6 enc Try.prog Try.f7 Rows.fnMadeOfRow.domain false) (Rows.fnMadeOfSpec.post enc Try.prog Try.f7 false true false false) := by
  refine returnsInHanded_of_change (C := Try.checked) own started (by kernel_rfl) Try.func7
    (ChangeSpec.witness6 (enc := enc) (C := Try.checked) false ⟨#[], #[.slice none 0 0], []⟩ 8 (by kernel_rfl) (by kernel_rfl) (by kernel_rfl) (by kernel_rfl)) ?_
  intro W base args ds gs before hval0 hW hcnd _
  have hval : ∀ (j : Nat) t v, Try.f7.params[j]? = some t → args[j]? = some v → Value.okWide Try.prog W .any base t v := hval0
  have hW' := hW
  obtain ⟨p, q, hA0, hV, rfl, hfz, hnd⟩ := hW
  have hA : DataW.TrodAll enc Try.prog W 0 (fun _ => true) true Try.f7.params.toList args.toList ds p := hA0
  rw [Try.params7] at hA hval
  obtain ⟨v0, vs0, d0, ds0, p0, q0, hargs, rfl, rfl, h0, r0⟩ := trodAll_cons hA
  obtain ⟨rfl, rfl, rfl⟩ := trodAll_nil r0
  obtain rfl : args = #[v0] := by cases args; simp_all
  obtain ⟨rfl, rfl⟩ := trodVars_none hV
  obtain ⟨a0, len0, cap0, rfl⟩ := okWide_slice Try.underlying22 (hval 0 22 v0 rfl rfl)
  have k0 := h0
  have lt0 : ∀ x ∈ p0, x.block < W.heap.size := by obtain ⟨m, hm⟩ := k0; exact DataW.trod_lt m _ _ _ hm
  obtain ⟨bs, w0⟩ : ∃ bs, RBytes W W.heap.size (.slice a0 len0 cap0) bs := by
    obtain ⟨fuel, hf⟩ := h0
    rcases open_ints Try.underlying22 Try.underlying5 (by kernel_rfl) hf with ⟨hcs, _⟩ | ⟨x, l, c, zs, hcs, _, hl, hm, hz, _, hcell, hwz⟩
    · simp [Value.cells] at hcs
      obtain ⟨rfl, rfl, rfl⟩ := hcs
      exact ⟨[], bytes_nil _ _⟩
    · simp [Value.cells] at hcs
      obtain ⟨rfl, rfl, rfl⟩ := hcs
      exact ⟨_, bytes_of hl hm (by simpa using hz) hcell hwz⟩
  clear hA0 hval0
  refine (walk_FnMadeOf _ bs W w0).mono fun e W' ⟨he, bel⟩ => ?_
  subst he
  exact ⟨_, rfl, _, _, _, [], _, [], hW', trodAll_mk1 (shut_bool Try.underlying4 _), (trodAll_cons_mk (Below.trod laidOut (by kernel_rfl) (of_decide_eq_true (by kernel_rfl)) k0 bel lt0) trodAll_mk0), rfl, bel.frame _, fun h => by cases h⟩

theorem over_FnMadeOf : Rows.fnMadeOfRow.holds Try.pinned (OpenSpec.ofChange Rows.fnMadeOfSpec) :=
  OpenClaim.holds_of_wide 7 Try.f7 rfl rfl rfl rfl rfl rfl rfl ⟨rfl, rfl, rfl, rfl, rfl⟩ rfl rfl rfl rfl rfl (by kernel_rfl) Try.func7 (by kernel_rfl)
    (of_decide_eq_true (by kernel_rfl)) (by unfold Func.isWrapper; first | (rw [if_pos (by decide +kernel)]; kernel_rfl) | (rw [if_neg (by decide +kernel)]; exact ⟨rfl, rfl⟩))
    (fun os started H enc _ => lifted_FnMadeOf os started H enc)

theorem proved_FnMadeOf : Rows.FnMadeOfSaid := over_FnMadeOf
end Go.Proofs.Ytkhabmoidpgapaa
