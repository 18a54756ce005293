/- MadeOf of package spec. -/
import Derived.Test.YtkhabmoidpgapaaK9244dd32
namespace Go.Proofs.Ytkhabmoidpgapaa
section
open Go.RowKit
set_option linter.unusedVariables false
set_option linter.unusedSimpArgs false

theorem last_row2 {row : List Int} {n : Nat} (hn : row.length = n + 1) (hne : n < row.length) : row.getLastD (-1) = row[n] := by
  have := last_at (row := row) (by omega)
  simp only [hn, Nat.add_sub_cancel] at this
  exact this
theorem gr_up {a b c : World} {g g2 : Nat} (h : a.grownBy b (some g)) (k : b.grownBy c (some g2)) (hg : a.heap.size ≤ g2) : a.grownBy c (some g) :=
  ⟨k.os.trans h.os, k.tape.trans h.tape, k.output.trans h.output, Nat.le_trans h.size k.size, fun i hi hne => (k.block i (Nat.lt_of_lt_of_le hi h.size) (fun e => by injection e with e; omega)).trans (h.block i hi hne)⟩
theorem own_other {w w' : World} {B g n c : Nat} {g2 : Nat} {xs : List Int} (h : OInts w B (.slice (some ⟨g, 0, none⟩) n c) xs) (hg : w.grownBy w' (some g2)) (hne : g ≠ g2) : OInts w' B (.slice (some ⟨g, 0, none⟩) n c) xs :=
  own_grown h hg (.inr (fun e => hne (by injection e with e)))
theorem gr_base2 {a b w' : World} {g : Nat} (h0 : Below a.heap.size a b) (hg : a.heap.size ≤ g) (h : b.grownBy w' (some g)) : Below a.heap.size a w' := gr_base h0 hg h
def restB (n g : Nat) (q : Value) (w : World) : Nat := match q with | .bool true => restM n g w + 1 | _ => 0
theorem haveB_zero (sets takes vals : List Int) : haveB sets takes vals 0 = true := rfl
theorem haveB_succ (sets takes vals : List Int) (n : Nat) : haveB sets takes vals (n + 1) = (haveB sets takes vals n && haveOne sets (takes.getD n 0) (vals.getD n 0)) := allN_succ _ _
/-- the digit of a set at a value, as both shifts tell it -/
theorem bit_of {y x : Int} (h0 : 0 ≤ y) (h1 : y < 8) (h2 : 0 ≤ x) (h3 : x < 3) : ∃ r : Int, (r = 0 ∨ r = 1) ∧ (y / 2 ^ min x.toNat 64).tmod 2 = r ∧ (y / 2 ^ x.toNat).tmod 2 = r ∧ hasB y x = (r == 1) := by
  rcases val3 h2 h3 with rfl | rfl | rfl <;> rcases set8 h0 h1 with rfl | rfl | rfl | rfl | rfl | rfl | rfl | rfl <;> exact ⟨_, by decide, rfl, by decide, by decide⟩

set_option maxHeartbeats 6400000 in
set_option maxRecDepth 100000 in
theorem specMadeOf_any (s : MSig) (m : MModel) (sets : List Int) (w : World) (v va vs : Value) (h1 : RSig w v s) (h2 : RModel w va m) (h3 : RInts w vs sets) :
    Calls Try.prog 32 #[v, va, vs] w fun e w' => ∃ u, e = .returned u ∧ OInts w' w.heap.size u (madeM s m sets) ∧ Below w.heap.size w w' := by
  obtain ⟨i0, hi0, hz0, hz1, hz2⟩ := info_parts Try.tinfo_int
  obtain ⟨Asa, csa, rfl⟩ := h1.form
  obtain ⟨Ama, cma, Amb, cmb, rfl⟩ := h2.form
  have hb : Below w.heap.size w ((w.alloc (.cells #[.int .i64 s.sorts, .slice Asa s.ops.length csa] 25)).alloc (.cells #[.slice Ama m.sizes.length cma, .slice Amb m.tables.length cmb] 28)) := (below_alloc _ _).alloc (by simp) _
  have HB := Lib.hid hb
  have hsz : ((w.alloc (.cells #[.int .i64 s.sorts, .slice Asa s.ops.length csa] 25)).alloc (.cells #[.slice Ama m.sizes.length cma, .slice Amb m.tables.length cmb] 28)).heap.size = w.heap.size + 2 := by simp
  have Hs := Lib.hid (h1.keep hb)
  have s0 := cell_keep (below_alloc (w.alloc (.cells #[.int .i64 s.sorts, .slice Asa s.ops.length csa] 25)) (.cells #[.slice Ama m.sizes.length cma, .slice Amb m.tables.length cmb] 28)) (bx_at (w) #[.int .i64 s.sorts, .slice Asa s.ops.length csa] 25 (k := 0) rfl)
  have s1 := cell_keep (below_alloc (w.alloc (.cells #[.int .i64 s.sorts, .slice Asa s.ops.length csa] 25)) (.cells #[.slice Ama m.sizes.length cma, .slice Amb m.tables.length cmb] 28)) (bx_at (w) #[.int .i64 s.sorts, .slice Asa s.ops.length csa] 25 (k := 1) rfl)
  have Hm := Lib.hid (h2.keep hb)
  have m0 := bx_at (w.alloc (.cells #[.int .i64 s.sorts, .slice Asa s.ops.length csa] 25)) #[.slice Ama m.sizes.length cma, .slice Amb m.tables.length cmb] 28 (k := 0) rfl
  have m1 := bx_at (w.alloc (.cells #[.int .i64 s.sorts, .slice Asa s.ops.length csa] 25)) #[.slice Ama m.sizes.length cma, .slice Amb m.tables.length cmb] 28 (k := 1) rfl
  simp only [World.size_alloc] at m0 m1
  generalize hW : (w.alloc (.cells #[.int .i64 s.sorts, .slice Asa s.ops.length csa] 25)).alloc (.cells #[.slice Ama m.sizes.length cma, .slice Amb m.tables.length cmb] 28) = W at HB hsz Hs s0 s1 Hm m0 m1
  clear hb h1 h2
  have HH := Lib.hid (h3.keep HB.out)
  obtain ⟨Ah, ch, rfl, -⟩ := h3.form
  have HSZ := Lib.hid hsz
  clear h3 hsz
  cases hma : setsOkB s m sets with
  | false =>
    have HMA := Lib.hid hma
    have HE := Lib.hid (show madeM s m sets = [] by unfold setsOkB at hma; unfold madeM; rw [hma]; rfl)
    clear hma
    go_enter Try.func32, Try.ntmps32
    go_wp2_with fail
    clear hW
    refine (l6Sets_any s m sets _ _ _ _ Hs.out Hm.out HH.out).mono ?_
    rw [HMA.out]
    rintro x w1 ⟨rfl, hb⟩
    replace HB := Lib.hid (sz_keep HB.out hb)
    replace s0 := cell_keep hb s0
    replace s1 := cell_keep hb s1
    replace m0 := cell_keep hb m0
    replace m1 := cell_keep hb m1
    replace Hs := Lib.hid (Hs.out.keep hb)
    replace Hm := Lib.hid (Hm.out.keep hb)
    replace HH := Lib.hid (HH.out.keep hb)
    clear hb
    go_wp2
    go_ret
    rw [HE.out]
    exact ⟨_, rfl, (own_empty w1).base HB.out.size, HB.out.alloc HB.out.size _⟩
  | true =>
    have HMA := Lib.hid hma
    have HE := Lib.hid (show madeM s m sets = closeM s m 22 sets by unfold setsOkB at hma; unfold madeM; rw [hma]; rfl)
    obtain ⟨hmo, hse⟩ := (Bool.and_eq_true ..).mp hma
    have HF := Lib.hid (model_facts hmo)
    have HINS := Lib.hid (setsB_iff.1 hse)
    have hs3 : sets.length ≤ 3 := by have := HINS.out.len; have := HF.out.sorts; omega
    have hs1 : 0 < sets.length := by have := HINS.out.len; have := HF.out.sorts; omega
    have hto := (valid_sorts HF.out.va).2.2
    obtain ⟨bs, os, cs9, e, -⟩ := HH.out.at_ hs1
    cases e
    clear hma hmo hse
    go_enter Try.func32, Try.ntmps32
    go_wp2_with fail
    clear hW
    refine (l6Sets_any s m sets _ _ _ _ Hs.out Hm.out HH.out).mono ?_
    rw [HMA.out]
    rintro x w2 ⟨rfl, hb⟩
    replace HB := Lib.hid (sz_keep HB.out hb)
    replace s0 := cell_keep hb s0
    replace s1 := cell_keep hb s1
    replace m0 := cell_keep hb m0
    replace m1 := cell_keep hb m1
    replace Hs := Lib.hid (Hs.out.keep hb)
    replace Hm := Lib.hid (Hm.out.keep hb)
    replace HH := Lib.hid (HH.out.keep hb)
    clear hb
    have HNEWS := Lib.hid (news_any (HH.out.keep (below_alloc w2 (.cells #[] 3))))
    go_wp2_with (at_builtin; refine wpList_append_own _ rfl _ _ 26 rfl w2.heap.size 3 i0 (.int .i64 0) 1 8 Try.underlying26 hi0 hz0 hz1 hz2 rfl (by decide) _ 0 [] rfl (own_empty w2) ⟨bs, os, none⟩ sets.length ch (sets.map (Value.int .i64)) rfl (by simp) HNEWS.out (ints_one _) (by rw [maxLen_eq]; omega) (by omega) (by simp) ?_)
    intro v' w4 hown4 hgrow4 _
    have hb4 := own_cut hgrow4 (fun k e => by injection e with e; exact Nat.le_of_eq e)
    have ho4 : OInts w4 w2.heap.size v' sets := by have h := hown4; unfold OInts; simpa using h
    obtain ⟨g, cg, rfl, hg⟩ := own_at ho4 hs1
    have HO4 := Lib.hid ho4
    have HB4 := Lib.hid hb4
    have HG := Lib.hid hg
    have HCX := Lib.hid (And.intro s0 (And.intro s1 (And.intro m0 m1)))
    clear hown4 hgrow4 ho4 hb4 hg HNEWS
    go_wp2
    clear s0 s1 m0 m1
    go_loopw [8, 9, 10, 11, 12, 13, 14, 15, 16, 17] (fun q _ _ _ _ _ _ _ _ _ wr => ∃ (b : Bool) (now : List Int), q = .bool b ∧ now.length = sets.length ∧ (b = true → Closing s m sets now) ∧ (b = false → closeM s m 22 sets = now) ∧ OInts wr w2.heap.size (.slice (some ⟨g, 0, none⟩) sets.length cg) now ∧ Below w2.heap.size w2 wr) (fun q _ _ _ _ _ _ _ _ _ wr => restB sets.length g q wr)
    case atStart => exact ⟨true, sets, rfl, rfl, (fun _ => closing_start HF.out HINS.out), (fun h => absurd h (by simp)), HO4.out, HB4.out⟩
    case round =>
      obtain ⟨b, now, rfl, hnl, hcl, hdo, ho, hd⟩ := hrel
      obtain ⟨wo, hwo⟩ : ∃ x : World, x = wr := ⟨_, rfl⟩
      subst hwo
      have HO := Lib.hid ho
      have HD := Lib.hid hd
      have HNL := Lib.hid hnl
      cases b with
      | false =>
        have HDO := Lib.hid (hdo rfl)
        clear hcl hdo ho hd hnl
        go_wp2
        go_ret
        rw [HE.out, HDO.out]
        exact ⟨_, rfl, HO.out.base HB.out.size, sz_keep HB.out HD.out⟩
      | true =>
        have HCL := Lib.hid (hcl rfl)
        have HM0 := Lib.hid (show restB sets.length g (.bool true) wo = (22 - total now).toNat + 1 by unfold restB restM; simp only; rw [readN_own ho hnl.symm])
        have HXS := Lib.hid HCL.out.1
        clear hcl hdo ho hd hnl
        go_wp2
        go_loopw [8, 9, 10, 11, 12, 13, 14, 15, 16, 17] (fun q i _ _ _ _ _ _ _ _ wr => ∃ k : Nat, k ≤ s.ops.length ∧ i = .int .i64 k ∧ q = .bool (addOps s m k (now, false)).2 ∧ OInts wr w2.heap.size (.slice (some ⟨g, 0, none⟩) sets.length cg) (addOps s m k (now, false)).1 ∧ Below w2.heap.size w2 wr) (fun _ i _ _ _ _ _ _ _ _ _ => s.ops.length - (intOf i).toNat)
        case atStart => exact ⟨0, Nat.zero_le _, rfl, rfl, HO.out, HD.out⟩
        case round =>
          obtain ⟨k, hk, rfl, rfl, ho, hd⟩ := hrel
          have HOK := Lib.hid ho
          have HDW := Lib.hid hd
          have f0 := cell_keep hd HCX.out.1
          have f1 := cell_keep hd HCX.out.2.1
          have f2 := cell_keep hd HCX.out.2.2.1
          have f3 := cell_keep hd HCX.out.2.2.2
          clear ho hd
          by_cases hks : k < s.ops.length
          · have hks' : (k : Int) < (s.ops.length : Int) := by omega
            obtain ⟨b4, o4, c4, u4, e, hx, hr4⟩ := Hs.out.of.2.at_ hks
            cases e
            replace hx := cell_keep HDW.out hx
            obtain ⟨r1, r2, r3⟩ := opRow_valid HF.out.va hks
            have HRI : Hid (RInts w2 u4 (opRow s k)) := by rw [opRow_at hks]; exact hr4
            have HTS := Lib.hid (addOps_succ s m k (now, false))
            have HGO := Lib.hid ((addOps_grows HF.out (st := (now, false)) HXS.out k (by omega)).ok)
            have HOA := Lib.hid (HF.out.op hks)
            have HXI : Hid (∀ x ∈ opRow s k, 0 ≤ x ∧ x < (m.sizes.length : Int)) := fun x hx => by have := r3 x hx; have := HF.out.sl; omega
            have HSM3 := Lib.hid HF.out.sorts.1
            have hkm : k < m.tables.length := by have := HF.out.tl; omega
            have hkm' : (k : Int) < (m.tables.length : Int) := by omega
            obtain ⟨bm, om, cm, um, e, hym, hrm⟩ := Hm.out.of.2.at_ hkm
            cases e
            have HYM := Lib.hid hym
            replace hym := cell_keep HDW.out hym
            have HMT : Hid (RInts w2 um (m.tables.getD k [])) := by rw [getD_at _ hkm]; exact hrm
            obtain ⟨Am, dm, rfl, -, -⟩ := HMT.out.form
            have HAD := Lib.hid (fun st => (show addOp s m k st = addRows (ledM m.sizes (opRow s k).dropLast) (opRow s k).dropLast ((opRow s k).getLastD (-1)) (m.tables.getD k []) (m.tables.getD k []).length st from rfl))
            clear hrm hr4 r3
            generalize hst : addOps s m k (now, false) = st at HOK HTS HGO
            rw [HAD.out] at HTS
            generalize opRow s k = row at HRI HOA HXI HTS r1 r2
            generalize m.tables.getD k [] = table at HMT HOA hym HYM HTS
            clear hst HAD
            obtain ⟨nr, hnr⟩ : ∃ nr : Nat, row.length = nr + 1 := ⟨row.length - 1, by omega⟩
            have hne : nr < row.length := by omega
            obtain ⟨br, or_, cr, rfl, hyr⟩ := HRI.out.at_ hne
            have HYR := Lib.hid hyr
            replace hyr := cell_keep HDW.out hyr
            have HLR := Lib.hid (last_row2 hnr hne)
            have HNR := Lib.hid hnr
            have HZ4 := Lib.hid HOA.out.zlen
            have HFW := Lib.hid HOA.out.few
            have HSA := Lib.hid HOA.out.siz
            have HLA := Lib.hid HOA.out.len
            have HVL := Lib.hid HOA.out.val
            have HLI := Lib.hid HOA.out.lin
            have HTI := Lib.hid HOA.out.tin
            have HLL := Lib.hid (show (ledM m.sizes row.dropLast).length = nr by rw [ledM_len, List.length_dropLast, hnr]; rfl)
            have HPA := Lib.hid (fun (w0 : World) (v0 v1 v2 : Value) (vals : List Int) (q0 : RInts w0 v0 m.sizes) (q1 : RInts w0 v1 row) (q2 : RInts w0 v2 vals) q3 => l6Place_any m.sizes row vals w0 v0 v1 v2 q0 q1 q2 r2 HOA.out.siz HXI.out HSM3.out q3)
            have HLIM := Lib.hid (fun (w0 : World) (v0 v1 : Value) (q0 : RInts w0 v0 m.sizes) (q1 : RInts w0 v1 row) => l6Limits_any m.sizes row w0 v0 v1 q0 q1 r1 r2 HXI.out HSM3.out)
            have HDL9 := Lib.hid (fun (i : Nat) (hi : i < nr) (hi' : i < row.length) (hi2 : i < row.dropLast.length) => (show row.dropLast[i] = row[i] from List.getElem_dropLast hi2))
            have HDN := Lib.hid (show row.dropLast.length = nr by rw [List.length_dropLast, hnr]; rfl)
            have HAG := Lib.hid (fun (zs : List Int) (j : Nat) (hj : j ≤ table.length) => (addRows_grows HF.out HOA.out (zs := zs) HGO.out j hj).ok)
            rw [HLR.out] at HTS HLI HVL HAG
            clear HLR HOA
            generalize row[nr] = last at hyr HYR HTS HLI HVL HAG
            generalize ledM m.sizes row.dropLast = zs at HZ4 HSA HLA HTS HPA HLL HLIM
            generalize row.dropLast = takes at HTS HDL9 HDN HTI HAG
            have hrl3 : row.length ≤ 3 := r2
            have hrl3' : (row.length : Int) ≤ 3 := by omega
            have hnr2 : nr ≤ 2 := by omega
            clear r1 hnr hne
            go_wp2_with fail
            refine (HLIM.out _ _ _ (Hm.out.of.1.keep HDW.out) (HRI.out.keep HDW.out)).mono ?_
            rintro x w5 ⟨u5, rfl, ho5, hb5⟩
            have HO5 := Lib.hid ho5
            obtain ⟨A5, c5, rfl, -⟩ := ho5.reads.form
            clear ho5
            obtain ⟨N, hN⟩ : ∃ N : Nat, waysM zs = (N : Int) := ⟨(waysM zs).toNat, by have := ways_pos HSA.out; omega⟩
            have HN := Lib.hid hN
            have hwp : 1 ≤ (N : Int) := by have := ways_pos HSA.out; omega
            have hwf : (N : Int) ≤ 81 := by have := ways_few HSA.out HZ4.out; omega
            have HNT := Lib.hid (show table.length = N by have := HLA.out; omega)
            have hzl := HZ4.out
            have hmk := run_make_row' (P := Try.prog) 26 3 (.int .i64 0) 8 Try.underlying26 Try.tinfo_int rfl .i64 .i64 zs.length (by omega) (by omega)
            have hba := below_alloc w5 (.cells (madeCells #[.int .i64 0] zs.length) 3)
            have hbn := World.alloc_heap_new w5 (.cells (madeCells #[.int .i64 0] zs.length) 3)
            have ho0 : OInts (w5.alloc (.cells (madeCells #[.int .i64 0] zs.length) 3)) w5.heap.size (.slice (some ⟨w5.heap.size, 0, none⟩) zs.length zs.length) (digM zs 0) := by
              rw [made_zero, ← dig_zero] at hbn ⊢
              have := row_owns (B := w5.heap.size) hbn (Nat.le_refl _) (by rw [digM_len]; omega)
              rw [digM_len] at this
              exact this
            have HGW := Lib.hid (show g < wr.heap.size from (own_lt HOK.out g rfl).2)
            have HG5 := Lib.hid (show g < w5.heap.size by have := hb5.size; have := HGW.out; omega)
            have HO6 := Lib.hid ((HOK.out.keep hb5).keep hba)
            generalize hW6 : w5.alloc (.cells (madeCells #[.int .i64 0] zs.length) 3) = w6 at hba ho0 HO6
            have HBA := Lib.hid hba
            have HO0 := Lib.hid ho0
            have HD5 := Lib.hid (sz_keep HDW.out hb5)
            clear hN hba ho0 hbn hb5 f0 f1 f2 f3 hym hyr hx
            go_wp2
            clear hmk hW6
            go_loopw [8, 13, 14, 15, 16, 17] (fun q p _ _ _ _ wk => ∃ (b : Bool) (j : Nat), p = .bool b ∧ (b = true → j < N) ∧ (b = false → j = N) ∧ q = .bool (addRows zs takes last table j st).2 ∧ OInts wk w2.heap.size (.slice (some ⟨g, 0, none⟩) sets.length cg) (addRows zs takes last table j st).1 ∧ (b = true → OInts wk w5.heap.size (.slice (some ⟨w5.heap.size, 0, none⟩) zs.length zs.length) (digM zs j)) ∧ w5.grownBy wk (some g)) (fun _ p _ _ _ _ wk => leftM zs N w5.heap.size p wk)
            case atStart => exact ⟨true, 0, rfl, (fun _ => by omega), (fun h => absurd h (by simp)), rfl, HO6.out, (fun _ => HO0.out), gr_of_below HBA.out⟩
            case round =>
              obtain ⟨b, j, rfl, hjlt, hjeq, rfl, hoj, hown, hgk⟩ := hrel
              obtain ⟨wk, hwk⟩ : ∃ x : World, x = wr := ⟨_, rfl⟩
              subst hwk
              have HOJ := Lib.hid hoj
              have HGK := Lib.hid hgk
              have HDK := Lib.hid (gr_base HD5.out HG.out hgk)
              clear hoj hgk
              cases b with
              | false =>
                have hjn := hjeq rfl
                have HJT := Lib.hid (show j = table.length by rw [hjn, HNT.out])
                clear hjlt hjeq hown
                have HQ2 := Lib.hid (show addOps s m (k + 1) (now, false) = addRows zs takes last table j st by rw [HTS.out, HJT.out])
                go_wp2
                go_roundw
                case rel => exact ⟨k + 1, by omega, by go_num, by rw [HQ2.out], by rw [HQ2.out]; exact HOJ.out, HDK.out⟩
                case measure => simp [intOf]; omega
              | true =>
                have hjN := hjlt rfl
                have HOV := Lib.hid (hown rfl)
                have hjt : j < table.length := by have := HNT.out; omega
                have HRS := Lib.hid (addRows_succ zs takes last table j st)
                have HOC := Lib.hid (HAG.out zs j (by omega))
                have HDL := Lib.hid (digM_len zs (j : Int))
                have HDI := Lib.hid (dig_in HSA.out (j : Int))
                have HD3 := Lib.hid (dig_three HSA.out (j : Int))
                have HND := Lib.hid (next_dig HSA.out (j : Int) (by omega))
                have HPD := Lib.hid (place_dig HSA.out 0 (j : Int) (by omega))
                have HPJ2 := Lib.hid (show placeM 0 zs (digM zs (j : Int)) = (j : Int) by rw [HPD.out, HN.out, Int.emod_eq_of_lt (by omega) (by omega)]; omega)
                generalize hcu : addRows zs takes last table j st = cu at HOJ HRS HOC
                have HAT := Lib.hid (show addAt zs takes last table j cu = if !haveOne cu.1 last (table.getD j 0) && haveB cu.1 takes (digM zs j) takes.length then (cu.1.set last.toNat (cu.1.getD last.toNat 0 + 2 ^ (table.getD j 0).toNat), true) else cu from rfl)
                clear hjlt hjeq hown hcu
                generalize hds : digM zs (j : Int) = ds at HOV HDL HDI HD3 HND HPJ2 HAT
                obtain ⟨cs, cb⟩ := cu
                simp only at HOJ HOC HAT
                have HCL2 := Lib.hid (show cs.length = sets.length by rw [HOC.out.len, HINS.out.len])
                have HSM := Lib.hid (fun x (hx : x ∈ cs) => (show 0 ≤ x ∧ x < 8 by obtain ⟨i, hi, e⟩ := List.getElem_of_mem hx; rw [← e]; exact HOC.out.small HF.out hi))
                have hdl := HDL.out
                clear hds
                go_wp2
                go_loopw [14, 15] (fun q i wi => ∃ t : Nat, t ≤ zs.length ∧ i = .int .i64 t ∧ q = .bool (haveB cs takes ds t) ∧ Below wk.heap.size wk wi) (fun _ i _ => zs.length - (intOf i).toNat)
                case atStart => exact ⟨0, Nat.zero_le _, rfl, rfl, Below.refl _ _⟩
                case round =>
                  obtain ⟨t, ht, rfl, rfl, hbi⟩ := hrel
                  obtain ⟨wi, hwi⟩ : ∃ x : World, x = wr := ⟨_, rfl⟩
                  subst hwi
                  have HBI := Lib.hid hbi
                  have HKI := Lib.hid (sz_keep HDK.out HBI.out)
                  by_cases htz : t < zs.length
                  · have htz' : (t : Int) < (zs.length : Int) := by omega
                    have htr : t < row.length := by have := HNR.out; have := HLL.out; omega
                    have htr' : (t : Int) < (row.length : Int) := by omega
                    have htd : t < ds.length := by have := HDL.out; omega
                    have htk : t < takes.length := by have := HDN.out; have := HLL.out; omega
                    obtain ⟨hv8, -⟩ := own_cell HOV.out htd
                    replace hv8 := cell_keep hbi hv8
                    obtain ⟨b10, o10, c10, e, hx10⟩ := (HRI.out.keep HKI.out).at_ htr
                    cases e
                    have HHS := Lib.hid (haveB_succ cs takes ds t)
                    have HTX := Lib.hid (HTI.out _ (List.getElem_mem htk))
                    have HDX := Lib.hid (HD3.out _ (List.getElem_mem htd))
                    rw [getD_at _ htk, getD_at _ htd] at HHS
                    have hdl9 := HDL9.out t (by have := HLL.out; omega) htr htk
                    rw [hdl9] at HHS HTX
                    clear hdl9
                    generalize row[t] = sk at hx10 HHS HTX
                    generalize ds[t] = x at hv8 HHS HDX
                    obtain ⟨i2, rfl⟩ : ∃ i2 : Nat, sk = (i2 : Int) := ⟨sk.toNat, by have := HTX.out; omega⟩
                    have hi2 : i2 < cs.length := by have := HTX.out; have := HOC.out.len; omega
                    have hi2' : (i2 : Int) < (sets.length : Int) := by have := HCL2.out; omega
                    have hi0' : (0 : Int) ≤ (i2 : Int) := by omega
                    have hx0 : (0 : Int) ≤ x := HDX.out.1
                    obtain ⟨hq1, -⟩ := own_cell HOJ.out hi2
                    replace hq1 := cell_keep hbi hq1
                    have HHO := Lib.hid (show haveOne cs (i2 : Int) x = hasB cs[i2] x by unfold haveOne; rw [Int.toNat_natCast, getD_at _ hi2])
                    rw [HHO.out] at HHS
                    have HYS := Lib.hid (HSM.out _ (List.getElem_mem hi2))
                    generalize cs[i2] = y at hq1 HHS HYS HHO
                    obtain ⟨r, hr01, hr1, hr2, hrb⟩ := bit_of HYS.out.1 HYS.out.2 HDX.out.1 HDX.out.2
                    clear hbi
                    cases hhv : haveB cs takes ds t with
                    | false =>
                      have HHF := Lib.hid (show haveB cs takes ds (t + 1) = false by rw [HHS.out, hhv, Bool.false_and])
                      clear hhv
                      go_wp2_with fail
                      refine wp_region_held_drew (S := (fun w' => w'.cell? ⟨w5.heap.size, t, none⟩ = some (.int .i64 x))) (by kernel_rfl) ?_ (fun hHeld => ?_)
                      · exact hv8
                      refine wpAnyH_take (i := 0) (oi := _) (v := ?_) rfl (by kernel_rfl) (by kernel_rfl) (by kernel_rfl) (fun _ _ _ h => h) (Or.inl ⟨by rfl, ?_⟩) (by assumption) ?_
                      rotate_left
                      · first | (intro w' hSw; (try dsimp only at hSw); go_simp; done) | (intro w' hSw; (try dsimp only at hSw); go_simp; with_reducible rfl)
                      try simp only [Act.put, List.getElem_toArray, List.getElem_cons_zero, List.getElem_cons_succ, List.setIfInBounds_toArray, List.set_cons_zero, List.set_cons_succ]
                      refine wpAnyH_take (i := 1) (oi := _) (v := ?_) rfl (by kernel_rfl) (by kernel_rfl) (by kernel_rfl) (fun _ _ _ h => h) (Or.inl ⟨by rfl, ?_⟩) (by assumption) ?_
                      rotate_left
                      · first | (intro w' hSw; (try dsimp only at hSw); go_simp; done) | (intro w' hSw; (try dsimp only at hSw); go_simp; with_reducible rfl)
                      try simp only [Act.put, List.getElem_toArray, List.getElem_cons_zero, List.getElem_cons_succ, List.setIfInBounds_toArray, List.set_cons_zero, List.set_cons_succ]
                      refine wpAnyH_take (i := 2) (oi := _) (v := _) rfl (by kernel_rfl) (by kernel_rfl) (by kernel_rfl) (fun _ _ _ h => h) (Or.inr ⟨by rfl, rfl⟩) (by assumption) ?_
                      try simp only [Act.put, List.getElem_toArray, List.getElem_cons_zero, List.getElem_cons_succ, List.setIfInBounds_toArray, List.set_cons_zero, List.set_cons_succ]
                      refine wpAnyH_take (i := 3) (oi := _) (v := _) rfl (by kernel_rfl) (by kernel_rfl) (by kernel_rfl) (fun _ _ _ h => h) (Or.inr ⟨by rfl, rfl⟩) (by assumption) ?_
                      try simp only [Act.put, List.getElem_toArray, List.getElem_cons_zero, List.getElem_cons_succ, List.setIfInBounds_toArray, List.set_cons_zero, List.set_cons_succ]
                      refine wpAnyH_take (i := 4) (oi := _) (v := _) rfl (by kernel_rfl) (by kernel_rfl) (by kernel_rfl) (fun _ _ _ h => h) (Or.inr ⟨by rfl, rfl⟩) (by assumption) ?_
                      try simp only [Act.put, List.getElem_toArray, List.getElem_cons_zero, List.getElem_cons_succ, List.setIfInBounds_toArray, List.set_cons_zero, List.set_cons_succ]
                      refine wpAnyH_take (i := 5) (oi := _) (v := _) rfl (by kernel_rfl) (by kernel_rfl) (by kernel_rfl) (fun _ _ _ h => h) (Or.inr ⟨by rfl, rfl⟩) (by assumption) ?_
                      try simp only [Act.put, List.getElem_toArray, List.getElem_cons_zero, List.getElem_cons_succ, List.setIfInBounds_toArray, List.set_cons_zero, List.set_cons_succ]
                      refine wpAnyH_take (i := 6) (oi := _) (v := _) rfl (by kernel_rfl) (by kernel_rfl) (by kernel_rfl) (fun _ _ _ h => h) (Or.inr ⟨by rfl, rfl⟩) (by assumption) ?_
                      try simp only [Act.put, List.getElem_toArray, List.getElem_cons_zero, List.getElem_cons_succ, List.setIfInBounds_toArray, List.set_cons_zero, List.set_cons_succ]
                      refine wpAnyH_take (i := 7) (oi := _) (v := _) rfl (by kernel_rfl) (by kernel_rfl) (by kernel_rfl) (fun _ _ _ h => h) (Or.inr ⟨by rfl, rfl⟩) (by assumption) ?_
                      try simp only [Act.put, List.getElem_toArray, List.getElem_cons_zero, List.getElem_cons_succ, List.setIfInBounds_toArray, List.set_cons_zero, List.set_cons_succ]
                      refine wpAnyH_take (i := 8) (oi := _) (v := _) rfl (by kernel_rfl) (by kernel_rfl) (by kernel_rfl) (fun _ _ _ h => h) (Or.inr ⟨by rfl, rfl⟩) (by assumption) ?_
                      try simp only [Act.put, List.getElem_toArray, List.getElem_cons_zero, List.getElem_cons_succ, List.setIfInBounds_toArray, List.set_cons_zero, List.set_cons_succ]
                      refine wpAnyH_take (i := 9) (oi := _) (v := _) rfl (by kernel_rfl) (by kernel_rfl) (by kernel_rfl) (fun _ _ _ h => h) (Or.inr ⟨by rfl, rfl⟩) (by assumption) ?_
                      try simp only [Act.put, List.getElem_toArray, List.getElem_cons_zero, List.getElem_cons_succ, List.setIfInBounds_toArray, List.set_cons_zero, List.set_cons_succ]
                      refine wpAnyH_take (i := 10) (oi := _) (v := _) rfl (by kernel_rfl) (by kernel_rfl) (by kernel_rfl) (fun _ _ _ h => h) (Or.inr ⟨by rfl, rfl⟩) (by assumption) ?_
                      try simp only [Act.put, List.getElem_toArray, List.getElem_cons_zero, List.getElem_cons_succ, List.setIfInBounds_toArray, List.set_cons_zero, List.set_cons_succ]
                      refine wpAnyH_take (i := 11) (oi := _) (v := _) rfl (by kernel_rfl) (by kernel_rfl) (by kernel_rfl) (fun _ _ _ h => h) (Or.inr ⟨by rfl, rfl⟩) (by assumption) ?_
                      try simp only [Act.put, List.getElem_toArray, List.getElem_cons_zero, List.getElem_cons_succ, List.setIfInBounds_toArray, List.set_cons_zero, List.set_cons_succ]
                      refine wpAnyH_take (i := 12) (oi := _) (v := _) rfl (by kernel_rfl) (by kernel_rfl) (by kernel_rfl) (fun _ _ _ h => h) (Or.inr ⟨by rfl, rfl⟩) (by assumption) ?_
                      try simp only [Act.put, List.getElem_toArray, List.getElem_cons_zero, List.getElem_cons_succ, List.setIfInBounds_toArray, List.set_cons_zero, List.set_cons_succ]
                      refine wpAnyH_take (i := 13) (oi := _) (v := _) rfl (by kernel_rfl) (by kernel_rfl) (by kernel_rfl) (fun _ _ _ h => h) (Or.inr ⟨by rfl, rfl⟩) (by assumption) ?_
                      try simp only [Act.put, List.getElem_toArray, List.getElem_cons_zero, List.getElem_cons_succ, List.setIfInBounds_toArray, List.set_cons_zero, List.set_cons_succ]
                      refine wpAnyH_take (i := 14) (oi := _) (v := _) rfl (by kernel_rfl) (by kernel_rfl) (by kernel_rfl) (fun _ _ _ h => h) (Or.inr ⟨by rfl, rfl⟩) (by assumption) ?_
                      try simp only [Act.put, List.getElem_toArray, List.getElem_cons_zero, List.getElem_cons_succ, List.setIfInBounds_toArray, List.set_cons_zero, List.set_cons_succ]
                      refine wpAnyH_take (i := 15) (oi := _) (v := _) rfl (by kernel_rfl) (by kernel_rfl) (by kernel_rfl) (fun _ _ _ h => h) (Or.inr ⟨by rfl, rfl⟩) (by assumption) ?_
                      try simp only [Act.put, List.getElem_toArray, List.getElem_cons_zero, List.getElem_cons_succ, List.setIfInBounds_toArray, List.set_cons_zero, List.set_cons_succ]
                      refine wpAnyH_take (i := 16) (oi := _) (v := ?_) rfl (by kernel_rfl) (by kernel_rfl) (by kernel_rfl) (fun _ _ _ h => h) (Or.inl ⟨by rfl, ?_⟩) (by assumption) ?_
                      rotate_left
                      · first | (intro w' hSw; (try dsimp only at hSw); go_simp; done) | (intro w' hSw; (try dsimp only at hSw); go_simp; with_reducible rfl)
                      try simp only [Act.put, List.getElem_toArray, List.getElem_cons_zero, List.getElem_cons_succ, List.setIfInBounds_toArray, List.set_cons_zero, List.set_cons_succ]
                      refine wpAnyH_take (i := 17) (oi := _) (v := ?_) rfl (by kernel_rfl) (by kernel_rfl) (by kernel_rfl) (fun _ _ _ h => h) (Or.inl ⟨by rfl, ?_⟩) (by assumption) ?_
                      rotate_left
                      · first | (intro w' hSw; (try dsimp only at hSw); go_simp; done) | (intro w' hSw; (try dsimp only at hSw); go_simp; with_reducible rfl)
                      try simp only [Act.put, List.getElem_toArray, List.getElem_cons_zero, List.getElem_cons_succ, List.setIfInBounds_toArray, List.set_cons_zero, List.set_cons_succ]
                      refine wpAnyH_done (by kernel_rfl) ?_ _
                      clear hx10 hv8 hq1 hr1 hr2
                      go_wp2
                      go_roundw
                      case rel => exact ⟨t + 1, by omega, by go_num, by rw [HHF.out], map_drew HBI.out⟩
                      case measure => simp [intOf]; omega
                    | true =>
                      rw [hhv, Bool.true_and, hrb] at HHS
                      clear hhv
                      rcases hr01 with rfl | rfl
                      · have HHF := Lib.hid (show haveB cs takes ds (t + 1) = false by rw [HHS.out]; decide)
                        go_wp2_with fail
                        refine wp_region_held_drew (S := (fun w' => w'.cell? ⟨w5.heap.size, t, none⟩ = some (.int .i64 x) ∧ w'.cell? ⟨br, or_ + t, none⟩ = some (.int .i64 (i2 : Int)) ∧ w'.cell? ⟨g, i2, none⟩ = some (.int .i64 y))) (by kernel_rfl) ?_ (fun hHeld => ?_)
                        · exact ⟨hv8, hx10, hq1⟩
                        refine wpAnyH_take (i := 0) (oi := _) (v := ?_) rfl (by kernel_rfl) (by kernel_rfl) (by kernel_rfl) (fun _ _ _ h => h) (Or.inl ⟨by rfl, ?_⟩) (by assumption) ?_
                        rotate_left
                        · first | (intro w' hSw; (try dsimp only at hSw); go_simp; done) | (intro w' hSw; (try dsimp only at hSw); go_simp; with_reducible rfl)
                        try simp only [Act.put, List.getElem_toArray, List.getElem_cons_zero, List.getElem_cons_succ, List.setIfInBounds_toArray, List.set_cons_zero, List.set_cons_succ]
                        refine wpAnyH_take (i := 1) (oi := _) (v := ?_) rfl (by kernel_rfl) (by kernel_rfl) (by kernel_rfl) (fun _ _ _ h => h) (Or.inl ⟨by rfl, ?_⟩) (by assumption) ?_
                        rotate_left
                        · first | (intro w' hSw; (try dsimp only at hSw); go_simp; done) | (intro w' hSw; (try dsimp only at hSw); go_simp; with_reducible rfl)
                        try simp only [Act.put, List.getElem_toArray, List.getElem_cons_zero, List.getElem_cons_succ, List.setIfInBounds_toArray, List.set_cons_zero, List.set_cons_succ]
                        refine wpAnyH_take (i := 2) (oi := _) (v := ?_) rfl (by kernel_rfl) (by kernel_rfl) (by kernel_rfl) (fun _ _ _ h => h) (Or.inl ⟨by rfl, ?_⟩) (by assumption) ?_
                        rotate_left
                        · first | (intro w' hSw; (try dsimp only at hSw); go_simp; done) | (intro w' hSw; (try dsimp only at hSw); go_simp; with_reducible rfl)
                        try simp only [Act.put, List.getElem_toArray, List.getElem_cons_zero, List.getElem_cons_succ, List.setIfInBounds_toArray, List.set_cons_zero, List.set_cons_succ]
                        refine wpAnyH_take (i := 3) (oi := _) (v := ?_) rfl (by kernel_rfl) (by kernel_rfl) (by kernel_rfl) (fun _ _ _ h => h) (Or.inl ⟨by rfl, ?_⟩) (by assumption) ?_
                        rotate_left
                        · first | (intro w' hSw; (try dsimp only at hSw); go_simp; done) | (intro w' hSw; (try dsimp only at hSw); go_simp; with_reducible rfl)
                        try simp only [Act.put, List.getElem_toArray, List.getElem_cons_zero, List.getElem_cons_succ, List.setIfInBounds_toArray, List.set_cons_zero, List.set_cons_succ]
                        refine wpAnyH_take (i := 4) (oi := _) (v := ?_) rfl (by kernel_rfl) (by kernel_rfl) (by kernel_rfl) (fun _ _ _ h => h) (Or.inl ⟨by rfl, ?_⟩) (by assumption) ?_
                        rotate_left
                        · first | (intro w' hSw; (try dsimp only at hSw); go_simp; done) | (intro w' hSw; (try dsimp only at hSw); go_simp; with_reducible rfl)
                        try simp only [Act.put, List.getElem_toArray, List.getElem_cons_zero, List.getElem_cons_succ, List.setIfInBounds_toArray, List.set_cons_zero, List.set_cons_succ]
                        refine wpAnyH_take (i := 5) (oi := _) (v := ?_) rfl (by kernel_rfl) (by kernel_rfl) (by kernel_rfl) (fun _ _ _ h => h) (Or.inl ⟨by rfl, ?_⟩) (by assumption) ?_
                        rotate_left
                        · first | (intro w' hSw; (try dsimp only at hSw); go_simp; done) | (intro w' hSw; (try dsimp only at hSw); go_simp; with_reducible rfl)
                        try simp only [Act.put, List.getElem_toArray, List.getElem_cons_zero, List.getElem_cons_succ, List.setIfInBounds_toArray, List.set_cons_zero, List.set_cons_succ]
                        refine wpAnyH_take (i := 6) (oi := _) (v := ?_) rfl (by kernel_rfl) (by kernel_rfl) (by kernel_rfl) (fun _ _ _ h => h) (Or.inl ⟨by rfl, ?_⟩) (by assumption) ?_
                        rotate_left
                        · first | (intro w' hSw; (try dsimp only at hSw); go_simp; done) | (intro w' hSw; (try dsimp only at hSw); go_simp; with_reducible rfl)
                        try simp only [Act.put, List.getElem_toArray, List.getElem_cons_zero, List.getElem_cons_succ, List.setIfInBounds_toArray, List.set_cons_zero, List.set_cons_succ]
                        refine wpAnyH_take (i := 7) (oi := _) (v := ?_) rfl (by kernel_rfl) (by kernel_rfl) (by kernel_rfl) (fun _ _ _ h => h) (Or.inl ⟨by rfl, ?_⟩) (by assumption) ?_
                        rotate_left
                        · first | (intro w' hSw; (try dsimp only at hSw); go_simp; done) | (intro w' hSw; (try dsimp only at hSw); go_simp; with_reducible rfl)
                        try simp only [Act.put, List.getElem_toArray, List.getElem_cons_zero, List.getElem_cons_succ, List.setIfInBounds_toArray, List.set_cons_zero, List.set_cons_succ]
                        refine wpAnyH_take (i := 8) (oi := _) (v := ?_) rfl (by kernel_rfl) (by kernel_rfl) (by kernel_rfl) (fun _ _ _ h => h) (Or.inl ⟨by rfl, ?_⟩) (by assumption) ?_
                        rotate_left
                        · first | (intro w' hSw; (try dsimp only at hSw); go_simp; done) | (intro w' hSw; (try dsimp only at hSw); go_simp; with_reducible rfl)
                        try simp only [Act.put, List.getElem_toArray, List.getElem_cons_zero, List.getElem_cons_succ, List.setIfInBounds_toArray, List.set_cons_zero, List.set_cons_succ]
                        refine wpAnyH_take (i := 9) (oi := _) (v := ?_) rfl (by kernel_rfl) (by kernel_rfl) (by kernel_rfl) (fun _ _ _ h => h) (Or.inl ⟨by rfl, ?_⟩) (by assumption) ?_
                        rotate_left
                        · first | (intro w' hSw; (try dsimp only at hSw); go_simp; done) | (intro w' hSw; (try dsimp only at hSw); go_simp; with_reducible rfl)
                        try simp only [Act.put, List.getElem_toArray, List.getElem_cons_zero, List.getElem_cons_succ, List.setIfInBounds_toArray, List.set_cons_zero, List.set_cons_succ]
                        refine wpAnyH_take (i := 10) (oi := _) (v := ?_) rfl (by kernel_rfl) (by kernel_rfl) (by kernel_rfl) (fun _ _ _ h => h) (Or.inl ⟨by rfl, ?_⟩) (by assumption) ?_
                        rotate_left
                        · first | (intro w' hSw; (try dsimp only at hSw); go_simp; done) | (intro w' hSw; (try dsimp only at hSw); go_simp; with_reducible rfl)
                        try simp only [Act.put, List.getElem_toArray, List.getElem_cons_zero, List.getElem_cons_succ, List.setIfInBounds_toArray, List.set_cons_zero, List.set_cons_succ]
                        refine wpAnyH_take (i := 11) (oi := _) (v := ?_) rfl (by kernel_rfl) (by kernel_rfl) (by kernel_rfl) (fun _ _ _ h => h) (Or.inl ⟨by rfl, ?_⟩) (by assumption) ?_
                        rotate_left
                        · first | (intro w' hSw; (try dsimp only at hSw); go_simp; done) | (intro w' hSw; (try dsimp only at hSw); go_simp; with_reducible rfl)
                        try simp only [Act.put, List.getElem_toArray, List.getElem_cons_zero, List.getElem_cons_succ, List.setIfInBounds_toArray, List.set_cons_zero, List.set_cons_succ]
                        refine wpAnyH_take (i := 12) (oi := _) (v := ?_) rfl (by kernel_rfl) (by kernel_rfl) (by kernel_rfl) (fun _ _ _ h => h) (Or.inl ⟨by rfl, ?_⟩) (by assumption) ?_
                        rotate_left
                        · first | (intro w' hSw; (try dsimp only at hSw); go_simp; done) | (intro w' hSw; (try dsimp only at hSw); go_simp; with_reducible rfl)
                        try simp only [Act.put, List.getElem_toArray, List.getElem_cons_zero, List.getElem_cons_succ, List.setIfInBounds_toArray, List.set_cons_zero, List.set_cons_succ]
                        refine wpAnyH_take (i := 13) (oi := _) (v := ?_) rfl (by kernel_rfl) (by kernel_rfl) (by kernel_rfl) (fun _ _ _ h => h) (Or.inl ⟨by rfl, ?_⟩) (by assumption) ?_
                        rotate_left
                        · first | (intro w' hSw; (try dsimp only at hSw); go_simp; done) | (intro w' hSw; (try dsimp only at hSw); go_simp; with_reducible rfl)
                        try simp only [Act.put, List.getElem_toArray, List.getElem_cons_zero, List.getElem_cons_succ, List.setIfInBounds_toArray, List.set_cons_zero, List.set_cons_succ]
                        refine wpAnyH_take (i := 14) (oi := _) (v := ?_) rfl (by kernel_rfl) (by kernel_rfl) (by kernel_rfl) (fun _ _ _ h => h) (Or.inl ⟨by rfl, ?_⟩) (by assumption) ?_
                        rotate_left
                        · first | (intro w' hSw; (try dsimp only at hSw); go_simp; done) | (intro w' hSw; (try dsimp only at hSw); go_simp; with_reducible rfl)
                        try simp only [Act.put, List.getElem_toArray, List.getElem_cons_zero, List.getElem_cons_succ, List.setIfInBounds_toArray, List.set_cons_zero, List.set_cons_succ]
                        refine wpAnyH_take (i := 15) (oi := _) (v := ?_) rfl (by kernel_rfl) (by kernel_rfl) (by kernel_rfl) (fun _ _ _ h => h) (Or.inl ⟨by rfl, ?_⟩) (by assumption) ?_
                        rotate_left
                        · first | (intro w' hSw; (try dsimp only at hSw); go_simp; done) | (intro w' hSw; (try dsimp only at hSw); go_simp; with_reducible rfl)
                        try simp only [Act.put, List.getElem_toArray, List.getElem_cons_zero, List.getElem_cons_succ, List.setIfInBounds_toArray, List.set_cons_zero, List.set_cons_succ]
                        refine wpAnyH_take (i := 16) (oi := _) (v := ?_) rfl (by kernel_rfl) (by kernel_rfl) (by kernel_rfl) (fun _ _ _ h => h) (Or.inl ⟨by rfl, ?_⟩) (by assumption) ?_
                        rotate_left
                        · first | (intro w' hSw; (try dsimp only at hSw); go_simp; done) | (intro w' hSw; (try dsimp only at hSw); go_simp; with_reducible rfl)
                        try simp only [Act.put, List.getElem_toArray, List.getElem_cons_zero, List.getElem_cons_succ, List.setIfInBounds_toArray, List.set_cons_zero, List.set_cons_succ]
                        refine wpAnyH_take (i := 17) (oi := _) (v := ?_) rfl (by kernel_rfl) (by kernel_rfl) (by kernel_rfl) (fun _ _ _ h => h) (Or.inl ⟨by rfl, ?_⟩) (by assumption) ?_
                        rotate_left
                        · first | (intro w' hSw; (try dsimp only at hSw); go_simp; done) | (intro w' hSw; (try dsimp only at hSw); go_simp; with_reducible rfl)
                        try simp only [Act.put, List.getElem_toArray, List.getElem_cons_zero, List.getElem_cons_succ, List.setIfInBounds_toArray, List.set_cons_zero, List.set_cons_succ]
                        refine wpAnyH_done (by kernel_rfl) ?_ _
                        clear hx10 hv8 hq1 hr1 hr2
                        go_wp2
                        go_roundw
                        case rel => exact ⟨t + 1, by omega, by go_num, by rw [HHF.out], map_drew HBI.out⟩
                        case measure => simp [intOf]; omega
                      · have HHF := Lib.hid (show haveB cs takes ds (t + 1) = true by rw [HHS.out]; decide)
                        go_wp2_with fail
                        refine wp_region_held_drew (S := (fun w' => w'.cell? ⟨w5.heap.size, t, none⟩ = some (.int .i64 x) ∧ w'.cell? ⟨br, or_ + t, none⟩ = some (.int .i64 (i2 : Int)) ∧ w'.cell? ⟨g, i2, none⟩ = some (.int .i64 y))) (by kernel_rfl) ?_ (fun hHeld => ?_)
                        · exact ⟨hv8, hx10, hq1⟩
                        refine wpAnyH_take (i := 0) (oi := _) (v := ?_) rfl (by kernel_rfl) (by kernel_rfl) (by kernel_rfl) (fun _ _ _ h => h) (Or.inl ⟨by rfl, ?_⟩) (by assumption) ?_
                        rotate_left
                        · first | (intro w' hSw; (try dsimp only at hSw); go_simp; done) | (intro w' hSw; (try dsimp only at hSw); go_simp; with_reducible rfl)
                        try simp only [Act.put, List.getElem_toArray, List.getElem_cons_zero, List.getElem_cons_succ, List.setIfInBounds_toArray, List.set_cons_zero, List.set_cons_succ]
                        refine wpAnyH_take (i := 1) (oi := _) (v := ?_) rfl (by kernel_rfl) (by kernel_rfl) (by kernel_rfl) (fun _ _ _ h => h) (Or.inl ⟨by rfl, ?_⟩) (by assumption) ?_
                        rotate_left
                        · first | (intro w' hSw; (try dsimp only at hSw); go_simp; done) | (intro w' hSw; (try dsimp only at hSw); go_simp; with_reducible rfl)
                        try simp only [Act.put, List.getElem_toArray, List.getElem_cons_zero, List.getElem_cons_succ, List.setIfInBounds_toArray, List.set_cons_zero, List.set_cons_succ]
                        refine wpAnyH_take (i := 2) (oi := _) (v := ?_) rfl (by kernel_rfl) (by kernel_rfl) (by kernel_rfl) (fun _ _ _ h => h) (Or.inl ⟨by rfl, ?_⟩) (by assumption) ?_
                        rotate_left
                        · first | (intro w' hSw; (try dsimp only at hSw); go_simp; done) | (intro w' hSw; (try dsimp only at hSw); go_simp; with_reducible rfl)
                        try simp only [Act.put, List.getElem_toArray, List.getElem_cons_zero, List.getElem_cons_succ, List.setIfInBounds_toArray, List.set_cons_zero, List.set_cons_succ]
                        refine wpAnyH_take (i := 3) (oi := _) (v := ?_) rfl (by kernel_rfl) (by kernel_rfl) (by kernel_rfl) (fun _ _ _ h => h) (Or.inl ⟨by rfl, ?_⟩) (by assumption) ?_
                        rotate_left
                        · first | (intro w' hSw; (try dsimp only at hSw); go_simp; done) | (intro w' hSw; (try dsimp only at hSw); go_simp; with_reducible rfl)
                        try simp only [Act.put, List.getElem_toArray, List.getElem_cons_zero, List.getElem_cons_succ, List.setIfInBounds_toArray, List.set_cons_zero, List.set_cons_succ]
                        refine wpAnyH_take (i := 4) (oi := _) (v := ?_) rfl (by kernel_rfl) (by kernel_rfl) (by kernel_rfl) (fun _ _ _ h => h) (Or.inl ⟨by rfl, ?_⟩) (by assumption) ?_
                        rotate_left
                        · first | (intro w' hSw; (try dsimp only at hSw); go_simp; done) | (intro w' hSw; (try dsimp only at hSw); go_simp; with_reducible rfl)
                        try simp only [Act.put, List.getElem_toArray, List.getElem_cons_zero, List.getElem_cons_succ, List.setIfInBounds_toArray, List.set_cons_zero, List.set_cons_succ]
                        refine wpAnyH_take (i := 5) (oi := _) (v := ?_) rfl (by kernel_rfl) (by kernel_rfl) (by kernel_rfl) (fun _ _ _ h => h) (Or.inl ⟨by rfl, ?_⟩) (by assumption) ?_
                        rotate_left
                        · first | (intro w' hSw; (try dsimp only at hSw); go_simp; done) | (intro w' hSw; (try dsimp only at hSw); go_simp; with_reducible rfl)
                        try simp only [Act.put, List.getElem_toArray, List.getElem_cons_zero, List.getElem_cons_succ, List.setIfInBounds_toArray, List.set_cons_zero, List.set_cons_succ]
                        refine wpAnyH_take (i := 6) (oi := _) (v := ?_) rfl (by kernel_rfl) (by kernel_rfl) (by kernel_rfl) (fun _ _ _ h => h) (Or.inl ⟨by rfl, ?_⟩) (by assumption) ?_
                        rotate_left
                        · first | (intro w' hSw; (try dsimp only at hSw); go_simp; done) | (intro w' hSw; (try dsimp only at hSw); go_simp; with_reducible rfl)
                        try simp only [Act.put, List.getElem_toArray, List.getElem_cons_zero, List.getElem_cons_succ, List.setIfInBounds_toArray, List.set_cons_zero, List.set_cons_succ]
                        refine wpAnyH_take (i := 7) (oi := _) (v := ?_) rfl (by kernel_rfl) (by kernel_rfl) (by kernel_rfl) (fun _ _ _ h => h) (Or.inl ⟨by rfl, ?_⟩) (by assumption) ?_
                        rotate_left
                        · first | (intro w' hSw; (try dsimp only at hSw); go_simp; done) | (intro w' hSw; (try dsimp only at hSw); go_simp; with_reducible rfl)
                        try simp only [Act.put, List.getElem_toArray, List.getElem_cons_zero, List.getElem_cons_succ, List.setIfInBounds_toArray, List.set_cons_zero, List.set_cons_succ]
                        refine wpAnyH_take (i := 8) (oi := _) (v := ?_) rfl (by kernel_rfl) (by kernel_rfl) (by kernel_rfl) (fun _ _ _ h => h) (Or.inl ⟨by rfl, ?_⟩) (by assumption) ?_
                        rotate_left
                        · first | (intro w' hSw; (try dsimp only at hSw); go_simp; done) | (intro w' hSw; (try dsimp only at hSw); go_simp; with_reducible rfl)
                        try simp only [Act.put, List.getElem_toArray, List.getElem_cons_zero, List.getElem_cons_succ, List.setIfInBounds_toArray, List.set_cons_zero, List.set_cons_succ]
                        refine wpAnyH_take (i := 9) (oi := _) (v := ?_) rfl (by kernel_rfl) (by kernel_rfl) (by kernel_rfl) (fun _ _ _ h => h) (Or.inl ⟨by rfl, ?_⟩) (by assumption) ?_
                        rotate_left
                        · first | (intro w' hSw; (try dsimp only at hSw); go_simp; done) | (intro w' hSw; (try dsimp only at hSw); go_simp; with_reducible rfl)
                        try simp only [Act.put, List.getElem_toArray, List.getElem_cons_zero, List.getElem_cons_succ, List.setIfInBounds_toArray, List.set_cons_zero, List.set_cons_succ]
                        refine wpAnyH_take (i := 10) (oi := _) (v := ?_) rfl (by kernel_rfl) (by kernel_rfl) (by kernel_rfl) (fun _ _ _ h => h) (Or.inl ⟨by rfl, ?_⟩) (by assumption) ?_
                        rotate_left
                        · first | (intro w' hSw; (try dsimp only at hSw); go_simp; done) | (intro w' hSw; (try dsimp only at hSw); go_simp; with_reducible rfl)
                        try simp only [Act.put, List.getElem_toArray, List.getElem_cons_zero, List.getElem_cons_succ, List.setIfInBounds_toArray, List.set_cons_zero, List.set_cons_succ]
                        refine wpAnyH_take (i := 11) (oi := _) (v := ?_) rfl (by kernel_rfl) (by kernel_rfl) (by kernel_rfl) (fun _ _ _ h => h) (Or.inl ⟨by rfl, ?_⟩) (by assumption) ?_
                        rotate_left
                        · first | (intro w' hSw; (try dsimp only at hSw); go_simp; done) | (intro w' hSw; (try dsimp only at hSw); go_simp; with_reducible rfl)
                        try simp only [Act.put, List.getElem_toArray, List.getElem_cons_zero, List.getElem_cons_succ, List.setIfInBounds_toArray, List.set_cons_zero, List.set_cons_succ]
                        refine wpAnyH_take (i := 12) (oi := _) (v := ?_) rfl (by kernel_rfl) (by kernel_rfl) (by kernel_rfl) (fun _ _ _ h => h) (Or.inl ⟨by rfl, ?_⟩) (by assumption) ?_
                        rotate_left
                        · first | (intro w' hSw; (try dsimp only at hSw); go_simp; done) | (intro w' hSw; (try dsimp only at hSw); go_simp; with_reducible rfl)
                        try simp only [Act.put, List.getElem_toArray, List.getElem_cons_zero, List.getElem_cons_succ, List.setIfInBounds_toArray, List.set_cons_zero, List.set_cons_succ]
                        refine wpAnyH_take (i := 13) (oi := _) (v := ?_) rfl (by kernel_rfl) (by kernel_rfl) (by kernel_rfl) (fun _ _ _ h => h) (Or.inl ⟨by rfl, ?_⟩) (by assumption) ?_
                        rotate_left
                        · first | (intro w' hSw; (try dsimp only at hSw); go_simp; done) | (intro w' hSw; (try dsimp only at hSw); go_simp; with_reducible rfl)
                        try simp only [Act.put, List.getElem_toArray, List.getElem_cons_zero, List.getElem_cons_succ, List.setIfInBounds_toArray, List.set_cons_zero, List.set_cons_succ]
                        refine wpAnyH_take (i := 14) (oi := _) (v := ?_) rfl (by kernel_rfl) (by kernel_rfl) (by kernel_rfl) (fun _ _ _ h => h) (Or.inl ⟨by rfl, ?_⟩) (by assumption) ?_
                        rotate_left
                        · first | (intro w' hSw; (try dsimp only at hSw); go_simp; done) | (intro w' hSw; (try dsimp only at hSw); go_simp; with_reducible rfl)
                        try simp only [Act.put, List.getElem_toArray, List.getElem_cons_zero, List.getElem_cons_succ, List.setIfInBounds_toArray, List.set_cons_zero, List.set_cons_succ]
                        refine wpAnyH_take (i := 15) (oi := _) (v := ?_) rfl (by kernel_rfl) (by kernel_rfl) (by kernel_rfl) (fun _ _ _ h => h) (Or.inl ⟨by rfl, ?_⟩) (by assumption) ?_
                        rotate_left
                        · first | (intro w' hSw; (try dsimp only at hSw); go_simp; done) | (intro w' hSw; (try dsimp only at hSw); go_simp; with_reducible rfl)
                        try simp only [Act.put, List.getElem_toArray, List.getElem_cons_zero, List.getElem_cons_succ, List.setIfInBounds_toArray, List.set_cons_zero, List.set_cons_succ]
                        refine wpAnyH_take (i := 16) (oi := _) (v := ?_) rfl (by kernel_rfl) (by kernel_rfl) (by kernel_rfl) (fun _ _ _ h => h) (Or.inl ⟨by rfl, ?_⟩) (by assumption) ?_
                        rotate_left
                        · first | (intro w' hSw; (try dsimp only at hSw); go_simp; done) | (intro w' hSw; (try dsimp only at hSw); go_simp; with_reducible rfl)
                        try simp only [Act.put, List.getElem_toArray, List.getElem_cons_zero, List.getElem_cons_succ, List.setIfInBounds_toArray, List.set_cons_zero, List.set_cons_succ]
                        refine wpAnyH_take (i := 17) (oi := _) (v := ?_) rfl (by kernel_rfl) (by kernel_rfl) (by kernel_rfl) (fun _ _ _ h => h) (Or.inl ⟨by rfl, ?_⟩) (by assumption) ?_
                        rotate_left
                        · first | (intro w' hSw; (try dsimp only at hSw); go_simp; done) | (intro w' hSw; (try dsimp only at hSw); go_simp; with_reducible rfl)
                        try simp only [Act.put, List.getElem_toArray, List.getElem_cons_zero, List.getElem_cons_succ, List.setIfInBounds_toArray, List.set_cons_zero, List.set_cons_succ]
                        refine wpAnyH_done (by kernel_rfl) ?_ _
                        clear hx10 hv8 hq1 hr1 hr2
                        go_wp2
                        go_roundw
                        case rel => exact ⟨t + 1, by omega, by go_num, by rw [HHF.out], map_drew HBI.out⟩
                        case measure => simp [intOf]; omega
                  · have HTN := Lib.hid (show t = takes.length by have := HDN.out; have := HLL.out; omega)
                    have htz' : ¬ (t : Int) < (zs.length : Int) := by omega
                    rw [← HTN.out] at HAT
                    have hjt' : (j : Int) < (table.length : Int) := by omega
                    have hj0 : (0 : Int) ≤ (j : Int) := by omega
                    have g2 := cell_keep HKI.out HCX.out.2.2.1
                    have g3 := cell_keep HKI.out HCX.out.2.2.2
                    have gm := cell_keep HKI.out HYM.out
                    have gr := cell_keep HKI.out HYR.out
                    obtain ⟨b8, o8, c8, e, hv8⟩ := (HMT.out.keep HKI.out).at_ hjt
                    cases e
                    have HGT := Lib.hid (show table.getD j 0 = table[j] from getD_at _ hjt)
                    have HVJ := Lib.hid (HVL.out _ (List.getElem_mem hjt))
                    rw [HGT.out] at HAT
                    generalize table[j] = x7 at hv8 HGT HVJ HAT
                    obtain ⟨l, hl⟩ : ∃ l : Nat, last = (l : Int) := ⟨last.toNat, by have := HLI.out; omega⟩
                    subst hl
                    have hlc : l < cs.length := by have := HLI.out; have := HOC.out.len; omega
                    have hlm : l < m.sizes.length := by have := HLI.out; omega
                    have hlc' : (l : Int) < (sets.length : Int) := by have := HCL2.out; omega
                    have hl0 : (0 : Int) ≤ (l : Int) := by omega
                    have HZL := Lib.hid (HF.out.sz _ (List.getElem_mem hlm))
                    rw [Int.toNat_natCast] at HVJ HAT
                    rw [getD_at _ hlm] at HVJ
                    rw [getD_at _ hlc] at HAT
                    have HX7 := Lib.hid (show 0 ≤ x7 ∧ x7 < 3 by have := HVJ.out; have := HZL.out; omega)
                    have hx70 : (0 : Int) ≤ x7 := HX7.out.1
                    have HOJI := Lib.hid (HOJ.out.keep hbi)
                    have HOVI := Lib.hid (HOV.out.keep hbi)
                    have HGKI := Lib.hid (gro_below HGK.out hbi)
                    have HYS := Lib.hid (HSM.out _ (List.getElem_mem hlc))
                    have HHO := Lib.hid (show haveOne cs (l : Int) x7 = hasB cs[l] x7 by unfold haveOne; rw [Int.toNat_natCast, getD_at _ hlc])
                    rw [HHO.out] at HAT
                    obtain ⟨hq1, hq2⟩ := own_cell HOJI.out hlc
                    generalize hy : cs[l] = y at hq1 HAT HYS HHO
                    clear hy
                    obtain ⟨r, hr01, hr1, hr2, hrb⟩ := bit_of HYS.out.1 HYS.out.2 HX7.out.1 HX7.out.2
                    rw [hrb] at HAT
                    have hnr0 : IntKind.i64.wrap ((row.length : Int) - 1) = (nr : Int) := by have := HNR.out; rw [IntKind.wrap_i64]; omega
                    have hnr1 : (nr : Int) < (row.length : Int) := by have := HNR.out; omega
                    clear hbi
                    go_wp2_with fail
                    refine wp_region_held_drew (S := (fun w' => w'.cell? ⟨w.heap.size + 1, 0, none⟩ = some (.slice Ama m.sizes.length cma) ∧ w'.cell? ⟨w.heap.size + 1, 1, none⟩ = some (.slice (some ⟨bm, om, none⟩) m.tables.length cmb) ∧ w'.cell? ⟨bm, om + k, none⟩ = some (.slice (some ⟨b8, o8, none⟩) table.length dm) ∧ w'.cell? ⟨b8, o8 + j, none⟩ = some (.int .i64 x7))) (by kernel_rfl) ?_ (fun hHeld => ?_)
                    · exact ⟨g2, g3, gm, hv8⟩
                    refine wpAnyH_take (i := 0) (oi := _) (v := ?_) rfl (by kernel_rfl) (by kernel_rfl) (by kernel_rfl) (fun _ _ _ h => h) (Or.inl ⟨by rfl, ?_⟩) (by assumption) ?_
                    rotate_left
                    · first | (intro w' hSw; (try dsimp only at hSw); go_simp; done) | (intro w' hSw; (try dsimp only at hSw); go_simp; with_reducible rfl)
                    try simp only [Act.put, List.getElem_toArray, List.getElem_cons_zero, List.getElem_cons_succ, List.setIfInBounds_toArray, List.set_cons_zero, List.set_cons_succ]
                    refine wpAnyH_take (i := 1) (oi := _) (v := ?_) rfl (by kernel_rfl) (by kernel_rfl) (by kernel_rfl) (fun _ _ _ h => h) (Or.inl ⟨by rfl, ?_⟩) (by assumption) ?_
                    rotate_left
                    · first | (intro w' hSw; (try dsimp only at hSw); go_simp; done) | (intro w' hSw; (try dsimp only at hSw); go_simp; with_reducible rfl)
                    try simp only [Act.put, List.getElem_toArray, List.getElem_cons_zero, List.getElem_cons_succ, List.setIfInBounds_toArray, List.set_cons_zero, List.set_cons_succ]
                    refine wpAnyH_take (i := 2) (oi := _) (v := ?_) rfl (by kernel_rfl) (by kernel_rfl) (by kernel_rfl) (fun _ _ _ h => h) (Or.inl ⟨by rfl, ?_⟩) (by assumption) ?_
                    rotate_left
                    · first | (intro w' hSw; (try dsimp only at hSw); go_simp; done) | (intro w' hSw; (try dsimp only at hSw); go_simp; with_reducible rfl)
                    try simp only [Act.put, List.getElem_toArray, List.getElem_cons_zero, List.getElem_cons_succ, List.setIfInBounds_toArray, List.set_cons_zero, List.set_cons_succ]
                    refine wpAnyH_take (i := 3) (oi := _) (v := ?_) rfl (by kernel_rfl) (by kernel_rfl) (by kernel_rfl) (fun _ _ _ h => h) (Or.inl ⟨by rfl, ?_⟩) (by assumption) ?_
                    rotate_left
                    · first | (intro w' hSw; (try dsimp only at hSw); go_simp; done) | (intro w' hSw; (try dsimp only at hSw); go_simp; with_reducible rfl)
                    try simp only [Act.put, List.getElem_toArray, List.getElem_cons_zero, List.getElem_cons_succ, List.setIfInBounds_toArray, List.set_cons_zero, List.set_cons_succ]
                    refine wpAnyH_take (i := 4) (oi := _) (v := ?_) rfl (by kernel_rfl) (by kernel_rfl) (by kernel_rfl) (fun _ _ _ h => h) (Or.inl ⟨by rfl, ?_⟩) (by assumption) ?_
                    rotate_left
                    · first | (intro w' hSw; (try dsimp only at hSw); go_simp; done) | (intro w' hSw; (try dsimp only at hSw); go_simp; with_reducible rfl)
                    try simp only [Act.put, List.getElem_toArray, List.getElem_cons_zero, List.getElem_cons_succ, List.setIfInBounds_toArray, List.set_cons_zero, List.set_cons_succ]
                    refine wpAnyH_take (i := 5) (oi := _) (v := ?_) rfl (by kernel_rfl) (by kernel_rfl) (by kernel_rfl) (fun _ _ _ h => h) (Or.inl ⟨by rfl, ?_⟩) (by assumption) ?_
                    rotate_left
                    · first | (intro w' hSw; (try dsimp only at hSw); go_simp; done) | (intro w' hSw; (try dsimp only at hSw); go_simp; with_reducible rfl)
                    try simp only [Act.put, List.getElem_toArray, List.getElem_cons_zero, List.getElem_cons_succ, List.setIfInBounds_toArray, List.set_cons_zero, List.set_cons_succ]
                    refine wpAnyH_take (i := 6) (oi := _) (v := ?_) rfl (by kernel_rfl) (by kernel_rfl) (by kernel_rfl) (fun _ _ _ h => h) (Or.inl ⟨by rfl, ?_⟩) (by assumption) ?_
                    rotate_left
                    · first | (intro w' hSw; (try dsimp only at hSw); go_simp; done) | (intro w' hSw; (try dsimp only at hSw); go_simp; with_reducible rfl)
                    try simp only [Act.put, List.getElem_toArray, List.getElem_cons_zero, List.getElem_cons_succ, List.setIfInBounds_toArray, List.set_cons_zero, List.set_cons_succ]
                    refine wpAnyH_take (i := 7) (oi := _) (v := ?_) rfl (by kernel_rfl) (by kernel_rfl) (by kernel_rfl) (fun _ _ _ h => h) (Or.inl ⟨by rfl, ?_⟩) (by assumption) ?_
                    rotate_left
                    · first | (intro w' hSw; (try dsimp only at hSw); go_simp; done) | (intro w' hSw; (try dsimp only at hSw); go_simp; with_reducible rfl)
                    try simp only [Act.put, List.getElem_toArray, List.getElem_cons_zero, List.getElem_cons_succ, List.setIfInBounds_toArray, List.set_cons_zero, List.set_cons_succ]
                    refine wpAnyH_take (i := 8) (oi := _) (v := ?_) rfl (by kernel_rfl) (by kernel_rfl) (by kernel_rfl) (fun _ _ _ h => h) (Or.inl ⟨by rfl, ?_⟩) (by assumption) ?_
                    rotate_left
                    · first | (intro w' hSw; (try dsimp only at hSw); go_simp; done) | (intro w' hSw; (try dsimp only at hSw); go_simp; with_reducible rfl)
                    try simp only [Act.put, List.getElem_toArray, List.getElem_cons_zero, List.getElem_cons_succ, List.setIfInBounds_toArray, List.set_cons_zero, List.set_cons_succ]
                    refine wpAnyH_ready (rs := [9]) (by kernel_rfl) (by simp) ?_
                    refine AllReadyH.cons (o := _) rfl (fun K hK => ?_) AllReadyH.nil
                    go_simp
                    refine (HPA.out _ _ _ _ ds ((Hm.out.of.1.keep HKI.out).keep (map_drew (Below.refl _ _))) ((HRI.out.keep HKI.out).keep (map_drew (Below.refl _ _))) (HOVI.out.reads.keep (map_drew (Below.refl _ _))) HDI.out).mono ?_
                    rw [HPJ2.out]
                    rintro x w7 ⟨rfl, hb7⟩
                    have hx7 := map_undrew hb7
                    have HX7B := Lib.hid hx7
                    have j2 := cell_keep hx7 g2
                    have j3 := cell_keep hx7 g3
                    have jm := cell_keep hx7 gm
                    have j8 := cell_keep hx7 hv8
                    clear hb7 hx7
                    go_wp2_with fail
                    refine hK.out _ _ ?_ (fun hHeld => ?_)
                    · exact ⟨j2, j3, jm, j8⟩
                    clear hK K
                    try simp only [Act.put, List.getElem_toArray, List.getElem_cons_zero, List.getElem_cons_succ, List.setIfInBounds_toArray, List.set_cons_zero, List.set_cons_succ]
                    refine wpAnyH_take (i := 10) (oi := _) (v := ?_) rfl (by kernel_rfl) (by kernel_rfl) (by kernel_rfl) (fun _ _ _ h => h) (Or.inl ⟨by rfl, ?_⟩) (by assumption) ?_
                    rotate_left
                    · first | (intro w' hSw; (try dsimp only at hSw); go_simp; done) | (intro w' hSw; (try dsimp only at hSw); go_simp; with_reducible rfl)
                    try simp only [Act.put, List.getElem_toArray, List.getElem_cons_zero, List.getElem_cons_succ, List.setIfInBounds_toArray, List.set_cons_zero, List.set_cons_succ]
                    refine wpAnyH_take (i := 11) (oi := _) (v := ?_) rfl (by kernel_rfl) (by kernel_rfl) (by kernel_rfl) (fun _ _ _ h => h) (Or.inl ⟨by rfl, ?_⟩) (by assumption) ?_
                    rotate_left
                    · first | (intro w' hSw; (try dsimp only at hSw); go_simp; done) | (intro w' hSw; (try dsimp only at hSw); go_simp; with_reducible rfl)
                    try simp only [Act.put, List.getElem_toArray, List.getElem_cons_zero, List.getElem_cons_succ, List.setIfInBounds_toArray, List.set_cons_zero, List.set_cons_succ]
                    refine wpAnyH_take (i := 12) (oi := _) (v := ?_) rfl (by kernel_rfl) (by kernel_rfl) (by kernel_rfl) (fun _ _ _ h => h) (Or.inl ⟨by rfl, ?_⟩) (by assumption) ?_
                    rotate_left
                    · first | (intro w' hSw; (try dsimp only at hSw); go_simp; done) | (intro w' hSw; (try dsimp only at hSw); go_simp; with_reducible rfl)
                    try simp only [Act.put, List.getElem_toArray, List.getElem_cons_zero, List.getElem_cons_succ, List.setIfInBounds_toArray, List.set_cons_zero, List.set_cons_succ]
                    refine wpAnyH_done (by kernel_rfl) ?_ _
                    replace gr := cell_keep HX7B.out gr
                    have HOJ7 := Lib.hid (HOJI.out.keep HX7B.out)
                    have HOV7 := Lib.hid (HOVI.out.keep HX7B.out)
                    have HGK7 := Lib.hid (gro_below HGKI.out HX7B.out)
                    replace hq1 := cell_keep HX7B.out hq1
                    have hq2' : w7.frozen? ⟨g, l, none⟩ = false := (own_cell HOJ7.out hlc).2
                    clear g2 g3 gm hv8 j2 j3 jm j8 hq2
                    cases hhv : haveB cs takes ds t with
                    | false =>
                      rw [hhv, Bool.and_false] at HAT
                      have HAE := Lib.hid (HAT.out.trans (if_neg (by simp)))
                      clear hhv hr1 hr2
                      have HSMD := Lib.hid (dig_small HSA.out HDI.out)
                      go_wp2_with fail
                      refine (l4Next_is zs ds zs.length HDL.out w5.heap.size w5.heap.size zs.length _ _ HOV7.out (by have := HDL.out; omega) HSMD.out (fun W' hg => (own_gr HO5.out (gr_up HGK7.out hg (Nat.le_refl _)) HGW.out).reads) (by have := HDL.out; omega)).mono ?_
                      rw [HND.out]
                      simp only
                      have hdn : OInts wk w5.heap.size (.slice (some ⟨w5.heap.size, 0, none⟩) ds.length ds.length) ds := by rw [HDL.out]; exact HOV.out
                      have HM0 := Lib.hid (show leftM zs N w5.heap.size (.bool true) wk = N - j + 1 by
                        unfold leftM
                        simp only
                        rw [readRow_own hdn, HPJ2.out]
                        omega)
                      clear hdn
                      by_cases hlast : j + 1 < N
                      · have hflag : (!(((j : Int) + 1) % waysM zs == 0)) = true := by
                          rw [HN.out, Int.emod_eq_of_lt (by omega) (by omega)]
                          simp; omega
                        rw [hflag]
                        rintro x w9 ⟨rfl, ho9, hg9, hz9⟩
                        have HO9 := Lib.hid ho9
                        have HG9 := Lib.hid (gr_up HGK7.out hg9 (Nat.le_refl _))
                        have HOO9 := Lib.hid (own_other HOJ7.out hg9 (by have := HG5.out; omega))
                        have hdn : OInts w9 w5.heap.size (.slice (some ⟨w5.heap.size, 0, none⟩) (digM zs ((j : Int) + 1)).length (digM zs ((j : Int) + 1)).length) (digM zs ((j : Int) + 1)) := by rw [digM_len]; exact ho9
                        have HM1 := Lib.hid (show leftM zs N w5.heap.size (.bool true) w9 = N - (j + 1) + 1 by
                          unfold leftM
                          simp only
                          rw [readRow_own hdn, place_dig HSA.out 0 ((j : Int) + 1) (by omega), HN.out, Int.emod_eq_of_lt (by omega) (by omega)]
                          omega)
                        clear ho9 hg9 hz9 hflag hdn
                        go_wp2
                        go_roundw
                        case rel => exact ⟨true, j + 1, rfl, (fun _ => hlast), (fun h => absurd h (by simp)), by rw [HRS.out, HAE.out], by rw [HRS.out, HAE.out]; exact HOO9.out, (fun _ => by have := HO9.out; simpa using this), HG9.out⟩
                        case measure => rw [HM0.out, HM1.out]; omega
                      · have hflag : (!(((j : Int) + 1) % waysM zs == 0)) = false := by
                          rw [HN.out, show (j : Int) + 1 = (N : Int) by omega, Int.emod_self]
                          rfl
                        rw [hflag]
                        rintro x w9 ⟨rfl, ho9, hg9, hz9⟩
                        have HG9 := Lib.hid (gr_up HGK7.out hg9 (Nat.le_refl _))
                        have HOO9 := Lib.hid (own_other HOJ7.out hg9 (by have := HG5.out; omega))
                        clear ho9 hg9 hz9 hflag
                        go_wp2
                        go_roundw
                        case rel => exact ⟨false, j + 1, rfl, (fun h => absurd h (by simp)), (fun _ => by omega), by rw [HRS.out, HAE.out], by rw [HRS.out, HAE.out]; exact HOO9.out, (fun h => absurd h (by simp)), HG9.out⟩
                        case measure => rw [HM0.out]; unfold leftM; simp only; omega
                    | true =>
                      rw [hhv, Bool.and_true] at HAT
                      clear hhv
                      rcases hr01 with rfl | rfl
                      · have HAE := Lib.hid (HAT.out.trans (if_pos (by decide)))
                        have HPW := Lib.hid (shl_add HYS.out.1 HYS.out.2 HX7.out.1 HX7.out.2)
                        have HPV := Lib.hid (shl_wrap (v := x7) HX7.out.1 (by have := HX7.out; omega))
                        have hsh := HPV.out
                        have hpi := Lib.hid (pow_in HX7.out.1 HX7.out.2)
                        generalize (2 : Int) ^ x7.toNat = p at HAE HPW HPV hsh hpi
                        have hadd : IntKind.i64.wrap (y + p) = y + p := by have := hpi.out; have := HYS.out; rw [IntKind.wrap_i64]; omega
                        obtain ⟨o1, g1⟩ := own_set HOJ7.out HCL2.out.symm l (y + p)
                        have HO1 := Lib.hid (own_drew2 o1)
                        have HG1 := Lib.hid (grown_drew2 g1)
                        clear o1 g1
                        go_wp2_with fail
                        have hq1d : w7.drew.cell? ⟨g, l, none⟩ = some (.int .i64 y) := hq1
                        have hq2d : w7.drew.frozen? ⟨g, l, none⟩ = false := hq2'
                        go_still_tail 10, (by kernel_rfl)
                        change wpList _ _ _ _ _ w7.drew
                        clear hq1 hq2'
                        generalize w7.drew = wd at HO1 HG1 hq1d hq2d
                        generalize hwz : wd.setCell ⟨g, l, none⟩ (.int .i64 (y + p)) = wz at HO1 HG1
                        have HGKZ := Lib.hid (grown_trans HGK7.out HG1.out)
                        have HOVZ := Lib.hid (own_gr HOV7.out HG1.out HG5.out)
                        have HSMD := Lib.hid (dig_small HSA.out HDI.out)
                        go_wp2_with fail
                        refine (l4Next_is zs ds zs.length HDL.out w5.heap.size w5.heap.size zs.length _ _ HOVZ.out (by have := HDL.out; omega) HSMD.out (fun W' hg => (own_gr HO5.out (gr_up HGKZ.out hg (Nat.le_refl _)) HGW.out).reads) (by have := HDL.out; omega)).mono ?_
                        rw [HND.out]
                        simp only
                        have hdn : OInts wk w5.heap.size (.slice (some ⟨w5.heap.size, 0, none⟩) ds.length ds.length) ds := by rw [HDL.out]; exact HOV.out
                        have HM0 := Lib.hid (show leftM zs N w5.heap.size (.bool true) wk = N - j + 1 by
                          unfold leftM
                          simp only
                          rw [readRow_own hdn, HPJ2.out]
                          omega)
                        clear hdn
                        by_cases hlast : j + 1 < N
                        · have hflag : (!(((j : Int) + 1) % waysM zs == 0)) = true := by
                            rw [HN.out, Int.emod_eq_of_lt (by omega) (by omega)]
                            simp; omega
                          rw [hflag]
                          rintro x w9 ⟨rfl, ho9, hg9, hz9⟩
                          have HO9 := Lib.hid ho9
                          have HG9 := Lib.hid (gr_up HGKZ.out hg9 (Nat.le_refl _))
                          have HOO9 := Lib.hid (own_other HO1.out hg9 (by have := HG5.out; omega))
                          have hdn : OInts w9 w5.heap.size (.slice (some ⟨w5.heap.size, 0, none⟩) (digM zs ((j : Int) + 1)).length (digM zs ((j : Int) + 1)).length) (digM zs ((j : Int) + 1)) := by rw [digM_len]; exact ho9
                          have HM1 := Lib.hid (show leftM zs N w5.heap.size (.bool true) w9 = N - (j + 1) + 1 by
                            unfold leftM
                            simp only
                            rw [readRow_own hdn, place_dig HSA.out 0 ((j : Int) + 1) (by omega), HN.out, Int.emod_eq_of_lt (by omega) (by omega)]
                            omega)
                          clear ho9 hg9 hz9 hflag hdn
                          go_wp2
                          go_roundw
                          case rel => exact ⟨true, j + 1, rfl, (fun _ => hlast), (fun h => absurd h (by simp)), by rw [HRS.out, HAE.out], by rw [HRS.out, HAE.out]; exact HOO9.out, (fun _ => by have := HO9.out; simpa using this), HG9.out⟩
                          case measure => rw [HM0.out, HM1.out]; omega
                        · have hflag : (!(((j : Int) + 1) % waysM zs == 0)) = false := by
                            rw [HN.out, show (j : Int) + 1 = (N : Int) by omega, Int.emod_self]
                            rfl
                          rw [hflag]
                          rintro x w9 ⟨rfl, ho9, hg9, hz9⟩
                          have HG9 := Lib.hid (gr_up HGKZ.out hg9 (Nat.le_refl _))
                          have HOO9 := Lib.hid (own_other HO1.out hg9 (by have := HG5.out; omega))
                          clear ho9 hg9 hz9 hflag
                          go_wp2
                          go_roundw
                          case rel => exact ⟨false, j + 1, rfl, (fun h => absurd h (by simp)), (fun _ => by omega), by rw [HRS.out, HAE.out], by rw [HRS.out, HAE.out]; exact HOO9.out, (fun h => absurd h (by simp)), HG9.out⟩
                          case measure => rw [HM0.out]; unfold leftM; simp only; omega
                      · have HAE := Lib.hid (HAT.out.trans (if_neg (by decide)))
                        have HSMD := Lib.hid (dig_small HSA.out HDI.out)
                        go_wp2_with fail
                        refine (l4Next_is zs ds zs.length HDL.out w5.heap.size w5.heap.size zs.length _ _ HOV7.out (by have := HDL.out; omega) HSMD.out (fun W' hg => (own_gr HO5.out (gr_up HGK7.out hg (Nat.le_refl _)) HGW.out).reads) (by have := HDL.out; omega)).mono ?_
                        rw [HND.out]
                        simp only
                        have hdn : OInts wk w5.heap.size (.slice (some ⟨w5.heap.size, 0, none⟩) ds.length ds.length) ds := by rw [HDL.out]; exact HOV.out
                        have HM0 := Lib.hid (show leftM zs N w5.heap.size (.bool true) wk = N - j + 1 by
                          unfold leftM
                          simp only
                          rw [readRow_own hdn, HPJ2.out]
                          omega)
                        clear hdn
                        by_cases hlast : j + 1 < N
                        · have hflag : (!(((j : Int) + 1) % waysM zs == 0)) = true := by
                            rw [HN.out, Int.emod_eq_of_lt (by omega) (by omega)]
                            simp; omega
                          rw [hflag]
                          rintro x w9 ⟨rfl, ho9, hg9, hz9⟩
                          have HO9 := Lib.hid ho9
                          have HG9 := Lib.hid (gr_up HGK7.out hg9 (Nat.le_refl _))
                          have HOO9 := Lib.hid (own_other HOJ7.out hg9 (by have := HG5.out; omega))
                          have hdn : OInts w9 w5.heap.size (.slice (some ⟨w5.heap.size, 0, none⟩) (digM zs ((j : Int) + 1)).length (digM zs ((j : Int) + 1)).length) (digM zs ((j : Int) + 1)) := by rw [digM_len]; exact ho9
                          have HM1 := Lib.hid (show leftM zs N w5.heap.size (.bool true) w9 = N - (j + 1) + 1 by
                            unfold leftM
                            simp only
                            rw [readRow_own hdn, place_dig HSA.out 0 ((j : Int) + 1) (by omega), HN.out, Int.emod_eq_of_lt (by omega) (by omega)]
                            omega)
                          clear ho9 hg9 hz9 hflag hdn
                          go_wp2
                          go_roundw
                          case rel => exact ⟨true, j + 1, rfl, (fun _ => hlast), (fun h => absurd h (by simp)), by rw [HRS.out, HAE.out], by rw [HRS.out, HAE.out]; exact HOO9.out, (fun _ => by have := HO9.out; simpa using this), HG9.out⟩
                          case measure => rw [HM0.out, HM1.out]; omega
                        · have hflag : (!(((j : Int) + 1) % waysM zs == 0)) = false := by
                            rw [HN.out, show (j : Int) + 1 = (N : Int) by omega, Int.emod_self]
                            rfl
                          rw [hflag]
                          rintro x w9 ⟨rfl, ho9, hg9, hz9⟩
                          have HG9 := Lib.hid (gr_up HGK7.out hg9 (Nat.le_refl _))
                          have HOO9 := Lib.hid (own_other HOJ7.out hg9 (by have := HG5.out; omega))
                          clear ho9 hg9 hz9 hflag
                          go_wp2
                          go_roundw
                          case rel => exact ⟨false, j + 1, rfl, (fun h => absurd h (by simp)), (fun _ => by omega), by rw [HRS.out, HAE.out], by rw [HRS.out, HAE.out]; exact HOO9.out, (fun h => absurd h (by simp)), HG9.out⟩
                          case measure => rw [HM0.out]; unfold leftM; simp only; omega
          · have hkn : k = s.ops.length := by omega
            have hks' : ¬ (k : Int) < (s.ops.length : Int) := by omega
            subst hkn
            have HOE := Lib.hid (show OInts wr w2.heap.size (.slice (some ⟨g, 0, none⟩) sets.length cg) (roundM s m now).1 from HOK.out)
            have HFL := Lib.hid (show (addOps s m s.ops.length (now, false)).2 = (roundM s m now).2 from rfl)
            rw [HFL.out]
            cases hr : (roundM s m now).2 with
            | true =>
              obtain ⟨hmo, hup⟩ := HCL.out.more HF.out hr
              have HMO := Lib.hid hmo
              have HUP := Lib.hid hup
              have hnl2 : (roundM s m now).1.length = sets.length := by rw [hmo.1.len, HINS.out.len]
              have HNL2 := Lib.hid hnl2
              have HM1 := Lib.hid (show restB sets.length g (.bool true) wr = (22 - total (roundM s m now).1).toNat + 1 by unfold restB restM; simp only; rw [readN_own HOE.out hnl2.symm])
              have HT := Lib.hid (total_21 HF.out HMO.out.1)
              clear hmo hup hr hnl2
              go_wp2
              go_roundw
              case rel => exact ⟨true, _, rfl, HNL2.out, (fun _ => HMO.out), (fun h => absurd h (by simp)), HOE.out, HDW.out⟩
              case measure => rw [HM0.out, HM1.out]; have := HUP.out; have := HT.out; omega
            | false =>
              obtain ⟨hdo, hsa⟩ := HCL.out.done HF.out hr
              have HDO := Lib.hid hdo
              rw [hsa] at HOE
              clear hdo hsa hr
              go_wp2
              go_roundw
              case rel => exact ⟨false, now, rfl, HNL.out, (fun h => absurd h (by simp)), (fun _ => HDO.out), HOE.out, HDW.out⟩
              case measure => rw [HM0.out]; unfold restB; simp only; omega
end
end Go.Proofs.Ytkhabmoidpgapaa
