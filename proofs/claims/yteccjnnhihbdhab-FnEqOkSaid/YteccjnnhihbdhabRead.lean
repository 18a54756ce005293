/- firstTerm and opWithTerms: a row is read as a term. By induction on a number that bounds the row's length. -/
import Derived.Test.YteccjnnhihbdhabVars
import Derived.Test.YteccjnnhihbdhabTree
namespace Go.Proofs.Yteccjnnhihbdhab
open Go.RowKit
set_option linter.unusedVariables false

theorem three_cells (w : World) (a b c : Value) (t : TypeId) : (w.alloc (.cells #[a, b, c] t)).cell? ⟨w.heap.size, 0, none⟩ = some a ∧ (w.alloc (.cells #[a, b, c] t)).cell? ⟨w.heap.size, 1, none⟩ = some b ∧ (w.alloc (.cells #[a, b, c] t)).cell? ⟨w.heap.size, 2, none⟩ = some c := by
  refine ⟨?_, ?_, ?_⟩ <;> (rw [World.cell?_alloc_at _ _ _ _ rfl]; rfl)
theorem m_letterSort (k of : Int) (w : World) : (method 246 124 (.agg #[.int .i64 k, .int .i64 of]) "loop.example/theorymodules/impl.sort").run Try.prog w = .ok (116, .agg #[.int .i64 k, .int .i64 of]) w := by kernel_rfl
theorem m_opSort (op lv : Int) (A : Option Addr) (n c : Nat) (w : World) : (method 246 128 (.agg #[.int .i64 op, .int .i64 lv, .slice A n c]) "loop.example/theorymodules/impl.sort").run Try.prog w = .ok (119, .agg #[.int .i64 op, .int .i64 lv, .slice A n c]) w := by kernel_rfl
theorem letterSort_any (k of : Int) (w : World) :
    Calls Try.prog 116 #[.agg #[.int .i64 k, .int .i64 of]] w fun e w' => e = .returned (.int .i64 of) ∧ Below w.heap.size w w' := by
  have hx := (box_cells w (.int .i64 k) (.int .i64 of) 124).2
  go_enter Try.func116, Try.ntmps116
  go_wp2
  go_ret
  exact ⟨rfl, below_alloc _ _⟩
theorem opSort_any (op lv : Int) (x : Value) (w : World) (hx : ∃ A n c, x = .slice A n c) :
    Calls Try.prog 119 #[.agg #[.int .i64 op, .int .i64 lv, x]] w fun e w' => e = .returned (.int .i64 lv) ∧ Below w.heap.size w w' := by
  obtain ⟨A, n, c, rfl⟩ := hx
  have hx := (three_cells w (.int .i64 op) (.int .i64 lv) (.slice A n c) 128).2.1
  go_enter Try.func119, Try.ntmps119
  go_wp2
  go_ret
  exact ⟨rfl, below_alloc _ _⟩

/-- the method of a term's value that tells its sort -/
theorem RTerm.sorts {w : World} {M : Nat → Prop} {v : Value} {t : Tm} (h : RTerm w M v t) : ∃ (T : TypeId) (x : Value) (fid : FuncId), v = .iface T x ∧ (∀ w' : World, (method 246 T x "loop.example/theorymodules/impl.sort").run Try.prog w' = .ok (fid, x) w') ∧ (∀ w' : World, (callFunc fid #[x]).run Try.prog w' = .ok (.enter fid #[x]) w') ∧
    ∀ w' : World, Calls Try.prog fid #[x] w' fun e w'' => e = .returned (.int .i64 t.sort) ∧ Below w'.heap.size w' w'' := by
  rcases h.form with ⟨k, of, rfl, e⟩ | ⟨op, lv, A, n, c, rfl, e⟩
  · exact ⟨_, _, _, rfl, fun w' => m_letterSort k of w', fun w' => by kernel_rfl, fun w' => by rw [e]; exact letterSort_any k of w'⟩
  · exact ⟨_, _, _, rfl, fun w' => m_opSort op lv A n c w', fun w' => by kernel_rfl, fun w' => by rw [e]; exact opSort_any op lv _ w' ⟨A, n, c, rfl⟩⟩

def ReadPost (rv : Value) (r : List Int) (res : Option (Tm × List Int)) (w : World) (e : Ending) (w' : World) : Prop :=
  (match res with
    | some (tm, b) => ∃ u bv, e = .returned (.tuple #[u, bv, .bool true]) ∧ RTerm w' (fun x => w.heap.size ≤ x) u tm ∧ SufOf rv bv r b
    | none => e = .returned (.tuple #[.nilIface, .slice none 0 0, .bool false])) ∧ Below w.heap.size w w'
def nodeM (s : MSig) (vars : List Int) (f op : Nat) (r : List Int) : Option (Tm × List Int) :=
  match argsM (firstM s vars f) (opRow s op).dropLast r with
  | none => none
  | some (ts, b) => some (.node op ((opRow s op).getLastD (-1)) ts, b)
def FirstAt (s : MSig) (vars : List Int) (f : Nat) : Prop := ∀ (r : List Int) (w : World) (v vv rv : Value), r.length ≤ f → Small r → RSig w v s → RInts w vv vars → RInts w rv r →
  Calls Try.prog 94 #[v, vv, rv] w (ReadPost rv r (firstM s vars f r) w)
theorem args_small {s : MSig} {vars : List Int} {f : Nat} {ss r : List Int} {ts : List Tm} {b : List Int} (h : argsM (firstM s vars f) ss r = some (ts, b)) (hs : Small r) : Small b := by
  obtain ⟨h1, h2⟩ := argsM_sound (firstM_sound f) _ _ _ _ h
  intro x hx
  exact hs x (by rw [h1]; exact List.mem_append_right _ hx)
theorem args_shorter {s : MSig} {vars : List Int} {f : Nat} {ss r : List Int} {ts : List Tm} {b : List Int} (h : argsM (firstM s vars f) ss r = some (ts, b)) : b.length ≤ r.length ∧ ts.length = ss.length := by
  obtain ⟨h1, h2⟩ := argsM_sound (firstM_sound f) _ _ _ _ h
  refine ⟨by rw [h1]; simp, ?_⟩
  clear h h1
  induction ts generalizing ss with
  | nil => unfold wfTs at h2; subst h2; rfl
  | cons t ts ih => unfold wfTs at h2; obtain ⟨x, ss', rfl, -, -, h4⟩ := h2; simp [ih h4]

set_option maxHeartbeats 800000 in
set_option maxRecDepth 100000 in
theorem opWithTerms_any (s : MSig) (vars : List Int) (hv : varsB s vars = true) (f : Nat) (ih : FirstAt s vars f) (op : Nat) (hop : op < s.ops.length) (r : List Int) (w : World) (v vv rv : Value) (hr : r.length ≤ f) (hsm : Small r)
    (h1 : RSig w v s) (h2 : RInts w vv vars) (h3 : RInts w rv r) :
    Calls Try.prog 98 #[v, vv, .int .i64 (op : Int), rv] w (ReadPost rv r (nodeM s vars f op r) w) := by
  obtain ⟨i0, hi0, hz0, hz1, hz2⟩ := info_parts (show (Try.prog.info? 96).map (fun i => (i.zero, i.size, i.bytes)) = some (some .nilIface, 1, 16) by kernel_rfl)
  obtain ⟨u, rfl, hrr⟩ := h1
  obtain ⟨sorts, ops⟩ := s
  simp only at hop
  have hrow := opRow_valid (vars_valid hv).1 (k := op) hop
  rw [opRow_at hop] at hrow
  simp only at hrow
  have hN : nodeM ⟨sorts, ops⟩ vars f op r = (match argsM (firstM ⟨sorts, ops⟩ vars f) ops[op].dropLast r with
    | none => none
    | some (ts, b) => some (.node op (ops[op].getLastD (-1)) ts, b)) := by
    unfold nodeM; rw [opRow_at hop]
  have hn := hrr.len
  obtain ⟨A, c, rfl, -⟩ := hrr.form
  have hb1 := below_alloc w (.cells #[.int .i64 sorts, .slice A ops.length c] 35)
  have hbx := box_cells w (.int .i64 sorts) (.slice A ops.length c) 35
  obtain ⟨b, o, c', u', e, hcell, hri⟩ := (hrr.keep hb1).at_ hop
  cases e
  have hHS := Lib.hid (show RSig (w.alloc (.cells #[.int .i64 sorts, .slice (some ⟨b, o, none⟩) ops.length c] 35)) (.agg #[.int .i64 sorts, .slice (some ⟨b, o, none⟩) ops.length c]) ⟨sorts, ops⟩ from ⟨_, rfl, hrr.keep hb1⟩)
  generalize ops[op] = row at hcell hri hrow hN
  have hr1 := hrow.1
  have hr3 := hrow.2.1
  rw [last_at (by omega)] at hN
  obtain ⟨b', o', c3, rfl, hx⟩ := hri.at_ (k := row.length - 1) (by omega)
  generalize row[row.length - 1]'(by omega) = lv at hx hN
  have HN := Lib.hid hN
  have HRI := Lib.hid hri
  have HB1 := Lib.hid hb1
  have HV2 := Lib.hid (h2.keep hb1)
  have HV3 := Lib.hid (h3.keep hb1)
  obtain ⟨A2, c2, rfl, -⟩ := h2.form
  obtain ⟨A3, c4, rfl, -⟩ := h3.form
  have f0 := hbx.1
  have f1 := hbx.2
  have HIH := Lib.hid ih
  have HSM := Lib.hid hsm
  clear hN hri hb1 h2 h3 hrr hbx hrow ih hv hsm
  obtain ⟨n, hnl⟩ : ∃ n, row.length = n + 1 := ⟨row.length - 1, by omega⟩
  rw [show row.length - 1 = n by omega] at hx
  rw [hnl] at hcell
  have HC3 : Hid (n + 1 ≤ c3) := by obtain ⟨A', c', e, q1, q2⟩ := HRI.out.form; cases e; unfold Hid; omega
  have hb2 := below_alloc (w.alloc (.cells #[.int .i64 sorts, .slice (some ⟨b, o, none⟩) ops.length c] 35)) (.cells #[.int .i64 (op : Int), .int .i64 lv, .slice none 0 0] 128)
  have g0 := cell_keep hb2 f0
  have g1 := cell_keep hb2 f1
  have g2 := cell_keep hb2 hcell
  have HB2 := Lib.hid hb2
  clear hb2
  have hc3 : (n : Int) ≤ (c3 : Int) := by have := HC3.out; omega
  have hc3' : n ≤ c3 := by have := HC3.out; omega
  have hst := TakesAt.start (w := w) (op := op) (lv := lv) (wr := (w.alloc (.cells #[.int .i64 sorts, .slice (some ⟨b, o, none⟩) ops.length c] 35)).alloc (.cells #[.int .i64 (op : Int), .int .i64 lv, .slice none 0 0] 128)) (b := w.heap.size + 1)
    ((congrArg (fun i => ((w.alloc (.cells #[.int .i64 sorts, .slice (some ⟨b, o, none⟩) ops.length c] 35)).alloc (.cells #[.int .i64 (op : Int), .int .i64 lv, .slice none 0 0] 128)).heap[i]?) (by simp)).trans (heap_alloc_new (w.alloc (.cells #[.int .i64 sorts, .slice (some ⟨b, o, none⟩) ops.length c] 35)) _)) (HB1.out.trans (HB2.out.mono (by simp))) (by omega)
  have HST := Lib.hid hst
  have HF := Lib.hid (And.intro f0 (And.intro f1 hcell))
  clear hst
  go_enter Try.func98, Try.ntmps98
  go_wp2
  clear f0 f1 hcell g0 g1 g2 hx
  go_loopw [3, 14, 15, 16, 17, 43] (fun r3 s14 t15 b16 k17 i43 wr => ∃ (k : Nat) (tv : Value) (ts : List Tm) (rk : List Int), k ≤ n ∧ i43 = .int .i64 k ∧ SufOf (.slice A3 r.length c4) r3 r rk ∧ argsM (firstM ⟨sorts, ops⟩ vars f) (row.dropLast.take k) r = some (ts, rk) ∧ TakesAt w wr (w.heap.size + 1) op lv tv ts ∧ Below (w.heap.size + 1) (w.alloc (.cells #[.int .i64 sorts, .slice (some ⟨b, o, none⟩) ops.length c] 35)) wr) (fun _ _ _ _ _ i _ => n - (intOf i).toNat)
  case atStart => exact ⟨0, _, [], r, Nat.zero_le _, rfl, SufOf.refl HV3.out, rfl, HST.out, HB2.out.mono (by simp)⟩
  case round =>
    obtain ⟨k, tv, ts, rk, hk, rfl, hrk, harg, htk, hbw⟩ := hrel
    have hbw' : Below (w.alloc (.cells #[.int .i64 sorts, .slice (some ⟨b, o, none⟩) ops.length c] 35)).heap.size (w.alloc (.cells #[.int .i64 sorts, .slice (some ⟨b, o, none⟩) ops.length c] 35)) wr := by simpa using hbw
    have f0 := cell_keep hbw' HF.out.1
    have f1 := cell_keep hbw' HF.out.2.1
    have HBW := Lib.hid hbw'
    have HARG := Lib.hid harg
    have HTK := Lib.hid htk
    have HSUF := Lib.hid hrk
    have HRK := Lib.hid (hrk.2 _ (HV3.out.keep hbw'))
    obtain ⟨A5, c5, rfl⟩ := hrk.1
    have hkl := (args_shorter harg).2
    rw [List.length_take, List.length_dropLast] at hkl
    have HKL := Lib.hid (show ts.length = k by omega)
    have hwsz := htk.bel.size
    clear hbw hbw' harg htk hrk HST hkl
    by_cases hlt : k < n
    · obtain ⟨b2, o2, c6, e, hx⟩ := (HRI.out.keep HBW.out).at_ (k := k) (by omega)
      cases e
      have hstep := argsM_step (ss := row.dropLast) (by rw [List.length_dropLast]; omega) HARG.out
      rw [List.getElem_dropLast] at hstep
      generalize row[k]'(by omega) = x at hx hstep
      have HSTEP := Lib.hid hstep
      clear hstep
      have hlt' : (k : Int) < (n : Int) := by omega
      go_wp2_with fail
      refine (HIH.out rk _ _ _ _ (Nat.le_trans (args_shorter HARG.out).1 hr) (args_small HARG.out HSM.out) (hHS.out.keep HBW.out) (HV2.out.keep HBW.out) HRK.out).mono ?_
      rintro e w2 ⟨hm, hb⟩
      have HB := Lib.hid hb
      clear hb
      cases hf : firstM ⟨sorts, ops⟩ vars f rk with
      | none =>
        rw [hf] at hm
        simp only at hm
        subst hm
        have HFN := Lib.hid hf
        clear hf
        go_wp2
        refine bodyPost_ret (v := .tuple #[.nilIface, .slice none 0 0, .bool false]) (by simp [results, Try.results98, go_sem]) rfl ?_
        have h := HSTEP.out
        rw [HFN.out] at h
        rw [HN.out, argsM_take_none h]
        exact ⟨rfl, HTK.out.bel.trans (HB.out.mono HTK.out.bel.size)⟩
      | some q =>
        obtain ⟨t, rb⟩ := q
        rw [hf] at hm
        simp only at hm
        obtain ⟨u, bv, rfl, hu, hbv⟩ := hm
        have HFS := Lib.hid hf
        have HU := Lib.hid hu
        have HBV := Lib.hid hbv
        obtain ⟨A6, c7, rfl⟩ := hbv.1
        clear hf hbv
        obtain ⟨T, y, fid, rfl, hms, hcf, hsc⟩ := hu.sorts
        have HSC := Lib.hid hsc
        clear hu hsc
        go_wp2_with fail
        refine (HSC.out _).mono ?_
        rintro e w3 ⟨rfl, hb3⟩
        have HB3 := Lib.hid (HB.out.trans (hb3.mono HB.out.size))
        have HU3 := Lib.hid (HU.out.below hb3)
        have f03 := cell_keep HB3.out f0
        have f13 := cell_keep HB3.out f1
        clear hb3 hms hcf HSC f0 f1 hx
        by_cases hts : t.sort = x
        · subst hts
          have h := HSTEP.out
          rw [HFS.out] at h
          simp only [if_true] at h
          have HNEXT := Lib.hid h
          clear h
          obtain ⟨us, hus, hrt⟩ := HTK.out.own
          obtain ⟨A9, c9, rfl, -⟩ := own_reads hus
          have HOWN := Lib.hid hus
          have HRT := Lib.hid hrt
          have hbox := (HB3.out.block _ (Array.getElem?_eq_some_iff.1 HTK.out.box).1).trans HTK.out.box
          have e2 := at_blk hbox 2
          simp at e2
          have hown3 := (own_keep HOWN.out HB3.out).alloc (.cells #[.iface T y] 96)
          rw [HKL.out] at hown3 e2
          have e3 := at_free hbox 2
          have f3 : (w3.alloc (.cells #[.iface T y] 96)).cell? ⟨w3.heap.size, 0, none⟩ = some (.iface T y) := by
            rw [World.cell?_alloc_at _ _ _ _ rfl]; rfl
          have hsz3 := HB3.out.size
          have hbl2 := (Array.getElem?_eq_some_iff.1 HTK.out.box).1
          clear hus hrt hbox
          go_wp2_with (at_builtin; refine wpList_append_lies _ rfl _ _ 126 rfl (w.heap.size + 1 + 1) 96 i0 .nilIface 1 16 Try.underlying126 hi0 hz0 hz1 hz2 rfl (by decide) _ _ _ rfl hown3 ⟨w3.heap.size, 0, none⟩ 1 1 [.iface T y] rfl rfl ?c1 ?c2 (by decide) ?c3 ?c4 ?c5 _ rfl ?_)
          case c1 => intro j u hj; match j, hj with | 0, hj => simp at hj; subst hj; simp [Addr.add]
          case c2 => intro u hu; simp at hu; subst hu; rfl
          case c3 => rw [maxLen_eq]; omega
          case c4 => omega
          case c5 => simp; omega
          intro g cap w4 hown4 hgrow4 hlies hlt4
          rw [← HKL.out] at hown4 hgrow4 hlies
          obtain ⟨hbox4, hnext⟩ := HTK.out.push HB3.out (HU3.out.keep fun x hx hl => ⟨by have := HB.out.size; omega, rfl⟩) HOWN.out HRT.out hown4 hgrow4 (by simpa using hlies)
          rw [HKL.out] at hbox4
          have hbel4 := Lib.hid (((((HBW.out.mono (show w.heap.size + 1 ≤ _ by simp)).trans (HB3.out.mono (by omega))).alloc (by omega) (.cells #[.iface T y] 96)).grown hgrow4 (by simp; omega) (fun k e => by have := own_lt HOWN.out k e; omega)).setCell (p := ⟨w.heap.size + 1, 2, none⟩) (Nat.le_refl _) (.slice (some ⟨g, 0, none⟩) (ts.length + 1) cap))
          have HNX := Lib.hid hnext
          have e4 := at_blk hbox4 2
          have e5 := at_free hbox4 2
          simp at e4
          clear hbox4 hnext hown4 hgrow4 hlies hown3 f3 e2 e3 f03 f13
          rw [HKL.out] at hbel4 HNX
          go_wp2
          go_roundw
          case rel => exact ⟨k + 1, _, ts ++ [t], rb, by omega, by go_num, HSUF.out.trans HBV.out, HNEXT.out, HNX.out, hbel4.out⟩
          case measure => simp [intOf]; omega
        · have h := HSTEP.out
          rw [HFS.out] at h
          simp only [if_neg hts] at h
          have HNONE := Lib.hid (argsM_take_none h)
          clear h
          generalize t.sort = q at hts ⊢
          go_wp2
          refine bodyPost_ret (v := .tuple #[.nilIface, .slice none 0 0, .bool false]) (by simp [results, Try.results98, go_sem]) rfl ?_
          rw [HN.out, HNONE.out]
          exact ⟨rfl, HTK.out.bel.trans (HB3.out.mono hwsz)⟩
    · have hkn : k = n := by omega
      have h := HARG.out
      rw [take_all (by rw [List.length_dropLast]; omega)] at h
      have HARG2 := Lib.hid h
      have hbox := HTK.out.box
      have e0 := at_blk hbox 0
      have e1 := at_blk hbox 1
      have e2 := at_blk hbox 2
      simp at e0 e1 e2
      clear h hbox
      go_wp2
      refine bodyPost_ret (v := .tuple #[.iface 128 (.agg #[.int .i64 (op : Int), .int .i64 lv, tv]), .slice A5 rk.length c5, .bool true]) (by simp [results, Try.results98, go_sem]) rfl ?_
      rw [HN.out, HARG2.out]
      exact ⟨⟨_, _, rfl, HTK.out.done, HSUF.out⟩, HTK.out.bel⟩
end Go.Proofs.Yteccjnnhihbdhab
