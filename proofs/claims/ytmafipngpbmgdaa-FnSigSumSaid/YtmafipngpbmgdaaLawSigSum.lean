/- FnSigSum answers true at every slice of bytes. No condition. -/
import Derived.Test.YtmafipngpbmgdaaFrame
import Derived.Test.YtmafipngpbmgdaaSum3
import Derived.Test.YtmafipngpbmgdaaSame
import Derived.Test.YtmafipngpbmgdaaDraw6
namespace Go.Proofs.Ytmafipngpbmgdaa
open Go.ChangeShapes Go.WideShapes Go.ChangeAt Go.RowKit
set_option linter.unusedVariables false

theorem part_sum {a b : MSig} (ha : validB a = true) (hb : validB b = true) (hs : validB (sumS a b) = true) : partM (sumS a b) a.sorts = a := by
  have xa := valid_sorts ha
  have xb := valid_sorts hb
  unfold partM
  rw [if_pos (by simp only [hs, Bool.true_and, Bool.and_eq_true, decide_eq_true_eq]; exact ⟨xa.1, by show a.sorts ≤ a.sorts + b.sorts; omega⟩)]
  obtain ⟨sa, ao⟩ := a
  obtain ⟨bs, bo⟩ := b
  simp only [sumS] at *
  congr 1
  rw [List.filter_append]
  have h1 : ao.filter (fun row => belowB row sa) = ao := by
    rw [List.filter_eq_self]
    intro row hr
    obtain ⟨i, hi, rfl⟩ := List.getElem_of_mem hr
    have := valid_row (s := ⟨sa, ao⟩) ha hi
    unfold belowB
    simp only [List.all_eq_true, Bool.and_eq_true, decide_eq_true_eq]
    exact this.2.2
  have h2 : (shiftR bo sa).filter (fun row => belowB row sa) = [] := by
    rw [List.filter_eq_nil_iff]
    intro row hr
    unfold shiftR at hr
    obtain ⟨r, hr2, rfl⟩ := List.mem_map.1 hr
    obtain ⟨i, hi, rfl⟩ := List.getElem_of_mem hr2
    have hv := valid_row (s := ⟨bs, bo⟩) hb hi
    unfold belowB
    simp only [List.all_eq_true, Bool.and_eq_true, decide_eq_true_eq]
    intro hh
    have hx := List.getElem_mem (show 0 < bo[i].length from hv.1)
    have h3 := hh _ (List.mem_map.2 ⟨_, hx, rfl⟩)
    have h4 := hv.2.2 _ hx
    omega
  rw [h1, h2, List.append_nil]

theorem sameSig_at (v v' : Value) (a b : MSig) (w : World) (r : Bool) (hr : sameS a b = r) (h : RSig w v a) (h' : RSig w v' b) :
    Calls Try.prog 22 #[v, v'] w fun e w' => e = .returned (.bool r) ∧ Below w.heap.size w w' := by
  subst hr; exact sameSig_any v v' a b w h h'
theorem below_undrew2 {w w' : World} (h : Below w.drew.heap.size w.drew w') : Below w.heap.size w w' := ⟨h.os, h.tape, h.output, h.size, h.block⟩

/-- a signature in a box at b, all of it in wi -/
structure BoxAt (wi : World) (b : Nat) (k : Int) (A : Option Addr) (n c : Nat) (s : MSig) : Prop where
  c0 : wi.cell? ⟨b, 0, none⟩ = some (.int .i64 k)
  c1 : wi.cell? ⟨b, 1, none⟩ = some (.slice A n c)
  rd : RSig wi (.agg #[.int .i64 k, .slice A n c]) s
theorem BoxAt.keep {wi wj : World} {b n c : Nat} {k : Int} {A : Option Addr} {s : MSig} (h : BoxAt wi b k A n c s) (hb : Below wi.heap.size wi wj) : BoxAt wj b k A n c s := ⟨cell_keep hb h.c0, cell_keep hb h.c1, h.rd.keep hb⟩
theorem BoxAt.start (w : World) {k : Int} {A : Option Addr} {n c : Nat} {s : MSig} (h : RSig w (.agg #[.int .i64 k, .slice A n c]) s) : BoxAt (w.alloc (.cells #[.int .i64 k, .slice A n c] 25)) w.heap.size k A n c s :=
  ⟨(box_cells w _ _ _).1, (box_cells w _ _ _).2, h.keep (below_alloc w _)⟩

set_option maxHeartbeats 3200000 in
set_option maxRecDepth 100000 in
theorem walk_FnSigSum (v : Value) (bs : List Int) (w : World) (h : RBytes w w.heap.size v bs) :
    Calls Try.prog 6 #[v] w fun e w' => e = .returned (.bool true) ∧ Below w.heap.size w w' := by
  have HW := Lib.hid h
  obtain ⟨A, c, rfl, hc1, hc2, -⟩ := h
  rw [maxLen_eq] at hc2
  by_cases hl : 1048576 < bs.length
  · go_enter Try.func6, Try.ntmps6
    go_wp2
    go_ret
    exact ⟨rfl, Below.refl _ _⟩
  · go_enter Try.func6, Try.ntmps6
    go_wp2_with fail
    refine (drawSigSum_any _ bs _ HW.out).mono ?_
    rintro e w1 ⟨v1, v2, ⟨sa, ao⟩, ⟨bs', bo⟩, rfl, ⟨u1, rfl, ho1⟩, ⟨u2, rfl, ho2⟩, hb1⟩
    simp only at ho1 ho2
    obtain ⟨A1, c1, rfl, -⟩ := ho1.reads.form
    obtain ⟨A2, c2, rfl, -⟩ := ho2.reads.form
    have ba := BoxAt.start w1 (s := ⟨sa, ao⟩) ⟨_, rfl, ho1.reads⟩
    have hal := below_alloc w1 (.cells #[.int .i64 sa, .slice A1 ao.length c1] 25)
    have hal2 := below_alloc (w1.alloc (.cells #[.int .i64 sa, .slice A1 ao.length c1] 25)) (.cells #[.int .i64 bs', .slice A2 bo.length c2] 25)
    have BA := Lib.hid (ba.keep hal2)
    have bb := BoxAt.start (w1.alloc (.cells #[.int .i64 sa, .slice A1 ao.length c1] 25)) (s := ⟨bs', bo⟩) ⟨_, rfl, ho2.reads.keep hal⟩
    rw [show (w1.alloc (.cells #[.int .i64 sa, .slice A1 ao.length c1] 25)).heap.size = w1.heap.size + 1 by simp] at bb
    have BB := Lib.hid bb
    have HB2 := Lib.hid ((hb1.trans (hal.mono hb1.size)).trans (hal2.mono (hb1.trans (hal.mono hb1.size)).size))
    clear ho1 ho2 hb1 hal hal2 ba bb
    generalize hW2 : (w1.alloc (.cells #[.int .i64 sa, .slice A1 ao.length c1] 25)).alloc (.cells #[.int .i64 bs', .slice A2 bo.length c2] 25) = W2 at BA BB HB2
    have f0 := BA.out.c0
    have f1 := BA.out.c1
    have f2 := BB.out.c0
    have f3 := BB.out.c1
    go_wp2_with fail
    clear hW2
    refine (sigSum_any _ _ ⟨sa, ao⟩ ⟨bs', bo⟩ _ BA.out.rd BB.out.rd).mono ?_
    obtain ⟨M, hM⟩ : ∃ M, M = sumM ⟨sa, ao⟩ ⟨bs', bo⟩ := ⟨_, rfl⟩
    obtain ⟨ok, hok⟩ : ∃ ok, ok = sumOk ⟨sa, ao⟩ ⟨bs', bo⟩ := ⟨_, rfl⟩
    have HM := Lib.hid hM
    have HOK := Lib.hid hok
    unfold SumPost
    rw [← hM, ← hok]
    clear hM hok
    obtain ⟨ms, mo⟩ := M
    rintro e w3 ⟨u3, rfl, ⟨x3, rfl, ho3⟩, hb3⟩
    simp only at ho3
    obtain ⟨A3, c3, rfl, -⟩ := ho3.reads.form
    have hal := below_alloc w3 (.cells #[.int .i64 ms, .slice A3 mo.length c3] 25)
    have hb4 := hb3.trans (hal.mono hb3.size)
    have BS := Lib.hid (BoxAt.start w3 (s := ⟨ms, mo⟩) ⟨_, rfl, ho3.reads⟩)
    have BA4 := Lib.hid (BA.out.keep hb4)
    have BB4 := Lib.hid (BB.out.keep hb4)
    have HB4 := Lib.hid (HB2.out.trans (hb4.mono HB2.out.size))
    have z3 := hb3.size
    clear f0 f1 f2 f3 hb3 hb4 hal ho3 BA BB HB2
    generalize hW4 : w3.alloc (.cells #[.int .i64 ms, .slice A3 mo.length c3] 25) = W4 at BS BA4 BB4 HB4
    have f0 := BA4.out.c0
    have f1 := BA4.out.c1
    have f2 := BB4.out.c0
    have f3 := BB4.out.c1
    go_wp2_with fail
    clear hW4
    refine (specSigSum_any _ _ ⟨sa, ao⟩ ⟨bs', bo⟩ _ BA4.out.rd BB4.out.rd).mono ?_
    unfold SumPost
    rw [← HM.out, ← HOK.out]
    rintro e w5 ⟨u5, rfl, ⟨x5, rfl, ho5⟩, hb5⟩
    simp only at ho5
    obtain ⟨A5, c5, rfl, -⟩ := ho5.reads.form
    have hal := below_alloc w5 (.cells #[.int .i64 ms, .slice A5 mo.length c5] 25)
    have hb6 := hb5.trans (hal.mono hb5.size)
    have BX := Lib.hid (BoxAt.start w5 (s := ⟨ms, mo⟩) ⟨_, rfl, ho5.reads⟩)
    have BA6 := Lib.hid (BA4.out.keep hb6)
    have BB6 := Lib.hid (BB4.out.keep hb6)
    have BS6 := Lib.hid (BS.out.keep hb6)
    have HB6 := Lib.hid (HB4.out.trans (hb6.mono HB4.out.size))
    clear f0 f1 f2 f3 hb5 hb6 hal ho5 BA4 BB4 BS HB4
    generalize hW6 : w5.alloc (.cells #[.int .i64 ms, .slice A5 mo.length c5] 25) = W6 at BX BA6 BB6 BS6 HB6
    have f0 := BS6.out.c0
    have f1 := BS6.out.c1
    have f2 := BX.out.c0
    have f3 := BX.out.c1
    go_wp2_with fail
    clear hW6
    refine (sameSig_at _ _ ⟨ms, mo⟩ ⟨ms, mo⟩ _ true (sameS_self _) BS6.out.rd BX.out.rd).mono ?_
    rintro e w7 ⟨rfl, hb7⟩
    have BA7 := Lib.hid (BA6.out.keep hb7)
    have BB7 := Lib.hid (BB6.out.keep hb7)
    have BS7 := Lib.hid (BS6.out.keep hb7)
    have HB7 := Lib.hid (HB6.out.trans (hb7.mono HB6.out.size))
    clear f0 f1 f2 f3 hb7 BA6 BB6 BS6 BX HB6
    cases ok with
    | false =>
      have hms : ms = 0 := by have h := HM.out; unfold sumM at h; rw [← HOK.out, if_neg (by simp)] at h; injection h
      subst hms
      have f0 := BS7.out.c0
      go_wp2_with fail
      refine (alive_any _).mono ?_
      rintro e w8 ⟨rfl, hb8⟩
      have HB8 := Lib.hid (HB7.out.trans (hb8.mono HB7.out.size))
      clear hb8 f0
      go_wp2
      go_ret
      exact ⟨rfl, HB8.out⟩
    | true =>
      have hOK := HOK.out.symm
      unfold sumOk at hOK
      simp only [Bool.and_eq_true] at hOK
      have hMM : (⟨ms, mo⟩ : MSig) = sumS ⟨sa, ao⟩ ⟨bs', bo⟩ := by have h := HM.out; unfold sumM at h; rw [← HOK.out, if_pos rfl] at h; exact h
      have hpart := part_sum hOK.1.1 hOK.1.2 hOK.2
      have hv := hOK.2
      rw [← hMM] at hpart hv
      have hlen : mo.length = ao.length + bo.length := by have h := congrArg (fun s => s.ops.length) hMM; simpa [sumS, shift_len] using h
      have hla := (valid_sorts hOK.1.1).2.2
      have hlb := (valid_sorts hOK.1.2).2.2
      simp only at hpart hla hlb
      have hwl : IntKind.i64.wrap ((ao.length : Int) + (bo.length : Int)) = (mo.length : Int) := by rw [IntKind.wrap_i64, hlen]; omega
      have HV := Lib.hid hv
      have HP := Lib.hid hpart
      clear hOK hMM hpart hv hla hlb hlen
      have f0 := BA7.out.c0
      have f1 := BA7.out.c1
      have f2 := BB7.out.c0
      have f3 := BB7.out.c1
      have f4 := BS7.out.c0
      have f5 := BS7.out.c1
      go_wp2_with fail
      have ea := World.new_ne w7 _ f0
      have eb := World.new_ne w7 _ f2
      have ec := World.new_ne w7 _ f4
      go_region_held3 (fun w' => w'.cell? ⟨w1.heap.size, 0, none⟩ = some (.int .i64 sa) ∧ w'.cell? ⟨w1.heap.size, 1, none⟩ = some (.slice A1 ao.length c1) ∧ w'.cell? ⟨w1.heap.size + 1, 0, none⟩ = some (.int .i64 bs') ∧ w'.cell? ⟨w1.heap.size + 1, 1, none⟩ = some (.slice A2 bo.length c2) ∧ w'.cell? ⟨w3.heap.size, 0, none⟩ = some (.int .i64 ms) ∧ w'.cell? ⟨w3.heap.size, 1, none⟩ = some (.slice A3 mo.length c3))
        (first | go_keep)
        (first
          | (go_at_call 9; refine (sigValid_any _ ⟨ms, mo⟩ w7.drew BS7.out.rd).mono ?_; rw [HV.out]; rintro e w8 ⟨rfl, hb8⟩; have HB8 := Lib.hid (below_undrew2 hb8); clear hb8; have BA8 := Lib.hid (BA7.out.keep HB8.out); have BB8 := Lib.hid (BB7.out.keep HB8.out); have BS8 := Lib.hid (BS7.out.keep HB8.out); have g0 := BA8.out.c0; have g1 := BA8.out.c1; have g2 := BB8.out.c0; have g3 := BB8.out.c1; have g4 := BS8.out.c0; have g5 := BS8.out.c1)
          | (go_at_call 23; refine (sigPart_any _ ⟨ms, mo⟩ sa _ BS8.out.rd).mono ?_; rw [HP.out]; rintro e w9 ⟨u9, rfl, ho9, hb9⟩; have HO9 := Lib.hid ho9.reads; have HB9 := Lib.hid (HB8.out.trans (hb9.mono HB8.out.size)); clear ho9 hb9; have BA9 := Lib.hid (BA7.out.keep HB9.out); have BB9 := Lib.hid (BB7.out.keep HB9.out); have BS9 := Lib.hid (BS7.out.keep HB9.out); have p0 := BA9.out.c0; have p1 := BA9.out.c1; have p2 := BB9.out.c0; have p3 := BB9.out.c1; have p4 := BS9.out.c0; have p5 := BS9.out.c1)
          | (go_at_call 22; refine (sameSig_at _ _ ⟨sa, ao⟩ ⟨sa, ao⟩ _ true (sameS_self _) HO9.out BA9.out.rd).mono ?_; rintro e wa ⟨rfl, hba⟩; have HBA := Lib.hid (HB9.out.trans (hba.mono HB9.out.size)); clear hba; have BAa := Lib.hid (BA7.out.keep HBA.out); have BBa := Lib.hid (BB7.out.keep HBA.out); have BSa := Lib.hid (BS7.out.keep HBA.out); have q0 := BAa.out.c0; have q1 := BAa.out.c1; have q2 := BBa.out.c0; have q3 := BBa.out.c1; have q4 := BSa.out.c0; have q5 := BSa.out.c1))
      have HBF := Lib.hid (HB7.out.trans (HBA.out.mono HB7.out.size))
      clear f0 f1 f2 f3 f4 f5 g0 g1 g2 g3 g4 g5 p0 p1 p2 p3 p4 p5 ea eb ec q0 q1 q2 q3 q4 q5
      go_wp2
      go_ret
      exact ⟨rfl, HBF.out⟩

set_option maxRecDepth 100000 in
theorem lifted_FnSigSum (os : Os) (started : os.Started) (H : Type) (enc : TypeId × Value → H) :
    ReturnsInHanded {} Try.checked os 6 .any (Rows.fnSigSumSpec.pre6 enc Try.prog Try.f6 Rows.fnSigSumRow.domain false) (Rows.fnSigSumSpec.post enc Try.prog Try.f6 false true false false) := by
  refine returnsInHanded_of_change (C := Try.checked) own started (by kernel_rfl) Try.func6
    (ChangeSpec.witness6 (enc := enc) (C := Try.checked) false ⟨#[], #[.slice none 0 0], []⟩ 8 (by kernel_rfl) (by kernel_rfl) (by kernel_rfl) (by kernel_rfl)) ?_
  intro W base args ds gs before hval0 hW hcnd _
  have hval : ∀ (j : Nat) t v, Try.f6.params[j]? = some t → args[j]? = some v → Value.okWide Try.prog W .any base t v := hval0
  have hW' := hW
  obtain ⟨p, q, hA0, hV, rfl, hfz, hnd⟩ := hW
  have hA : DataW.TrodAll enc Try.prog W 0 (fun _ => true) true Try.f6.params.toList args.toList ds p := hA0
  rw [Try.params6] at hA hval
  obtain ⟨v0, vs0, d0, ds0, p0, q0, hargs, rfl, rfl, h0, r0⟩ := trodAll_cons hA
  obtain ⟨rfl, rfl, rfl⟩ := trodAll_nil r0
  obtain rfl : args = #[v0] := by cases args; simp_all
  obtain ⟨rfl, rfl⟩ := trodVars_none hV
  obtain ⟨a0, len0, cap0, rfl⟩ := okWide_slice Try.underlying22 (hval 0 22 v0 rfl rfl)
  have k0 := h0
  have lt0 : ∀ x ∈ p0, x.block < W.heap.size := by obtain ⟨m, hm⟩ := k0; exact DataW.trod_lt m _ _ _ hm
  obtain ⟨bs, w0⟩ : ∃ bs, RBytes W W.heap.size (.slice a0 len0 cap0) bs := by
    obtain ⟨fuel, hf⟩ := h0
    rcases open_ints Try.underlying22 Try.underlying5 (by kernel_rfl) hf with ⟨hcs, _⟩ | ⟨x, l, c, zs, hcs, _, hl, hm, hz, _, hcell, hwz⟩
    · simp [Value.cells] at hcs
      obtain ⟨rfl, rfl, rfl⟩ := hcs
      exact ⟨[], bytes_nil _ _⟩
    · simp [Value.cells] at hcs
      obtain ⟨rfl, rfl, rfl⟩ := hcs
      exact ⟨_, bytes_of hl hm (by simpa using hz) hcell hwz⟩
  clear hA0 hval0
  refine (walk_FnSigSum _ bs W w0).mono fun e W' ⟨he, bel⟩ => ?_
  subst he
  exact ⟨_, rfl, _, _, _, [], _, [], hW', trodAll_mk1 (shut_bool Try.underlying4 _), (trodAll_cons_mk (Below.trod laidOut (by kernel_rfl) (of_decide_eq_true (by kernel_rfl)) k0 bel lt0) trodAll_mk0), rfl, bel.frame _, fun h => by cases h⟩

theorem over_FnSigSum : Rows.fnSigSumRow.holds Try.pinned (OpenSpec.ofChange Rows.fnSigSumSpec) :=
  OpenClaim.holds_of_wide 6 Try.f6 rfl rfl rfl rfl rfl rfl rfl ⟨rfl, rfl, rfl, rfl, rfl⟩ rfl rfl rfl rfl rfl (by kernel_rfl) Try.func6 (by kernel_rfl)
    (of_decide_eq_true (by kernel_rfl)) (by unfold Func.isWrapper; first | (rw [if_pos (by decide +kernel)]; kernel_rfl) | (rw [if_neg (by decide +kernel)]; exact ⟨rfl, rfl⟩))
    (fun os started H enc _ => lifted_FnSigSum os started H enc)

theorem proved_FnSigSum : Rows.FnSigSumSaid := over_FnSigSum
end Go.Proofs.Ytmafipngpbmgdaa
