/- FnExactLenientFindings: at all arms the law returns true: LenientFindings of the program answers as its model does, in memory of its own. The card ties the table of attitudes to the program's text. No condition. -/
import Derived.Test.YtgoelkgdjnhklaaDoorRows
import Derived.Test.YtgoelkgdjnhklaaDoorCards
import Derived.Test.YtgoelkgdjnhklaaDoorTie
import Derived.WalkKit
import Derived.ProofKit
import Derived.OpenShut
import Derived.ShutString
import Derived.Test.YtgoelkgdjnhklaaDoorE8Spec
import Derived.Test.YtgoelkgdjnhklaaDoorE8LenS
import Derived.Test.YtgoelkgdjnhklaaDoorE8Rows
import Derived.Test.YtgoelkgdjnhklaaDoorFlat
import Derived.LaidMore
import Derived.Stop.Joined
import Derived.SevenTiedAt
import Derived.OpenVars
import Derived.ChangeVars
import Derived.Below
import Derived.Test.YtgoelkgdjnhklaaDoorFlat
namespace Go.Proofs.YtgoelkgdjnhklaaDoor.fnExactLenientFindings
open Go.ChangeShapes Go.WideShapes Go.ChangeAt Go.RowKit
open Go.ChangeMaps (open_string shut_string)
set_option linter.unusedVariables false      -- a walk need not use every 'w<i>' (that an integer argument fits its kind)

theorem cells15 {zs : List Int} (h : zs.length = 15) : ∃ x0 x1 x2 x3 x4 x5 x6 x7 x8 x9 x10 x11 x12 x13 x14 : Int, zs = [x0, x1, x2, x3, x4, x5, x6, x7, x8, x9, x10, x11, x12, x13, x14] := by
  match zs, h with
  | [x0, x1, x2, x3, x4, x5, x6, x7, x8, x9, x10, x11, x12, x13, x14], _ => exact ⟨x0, x1, x2, x3, x4, x5, x6, x7, x8, x9, x10, x11, x12, x13, x14, rfl⟩

def laidL : List (String × DataW Unit) := [("loop.example/g00884/impl.attitudeWords", Rows.laid_loop_example_g00884_impl_attitudeWords)]

/-- The door's own heap meets the condition. -/
theorem door_met (os : Os) (args : Array Value) : laidMetH Tryd.prog laidL ((World.doorLaid Tryd.prog 400 os).forCall (fun _ _ => 0) ⟨#[], args, []⟩).memory :=
  laidMetH_of_parts3 (fuel := 8) (laidMet_of_run' 8 (by kernel_rfl) (by kernel_rfl)) (by kernel_rfl) (by kernel_rfl)

theorem own : ownKnob Tryd.prog.godebug = none := by kernel_rfl

/-! ### STEP 1: THE WALK: the Go text returns true. 'Grown w w'': the world has at most new blocks (Derived/RowKit3.lean). Part the cases AHEAD of 'go_enter' where a test parts the walk; take each callee by a contract of your own. -/
set_option maxHeartbeats 8000000 in
theorem walk (a0_0 a0_1 a0_2 a0_3 a0_4 a0_5 a0_6 a0_7 a0_8 a0_9 a0_10 a0_11 a0_12 a0_13 a0_14 : Int) (w0 : ∀ z ∈ [a0_0, a0_1, a0_2, a0_3, a0_4, a0_5, a0_6, a0_7, a0_8, a0_9, a0_10, a0_11, a0_12, a0_13, a0_14], (Lit.int .i64 z).wf = true) (w : World) (hL : laidMetH Tryd.prog laidL w) :
    Calls Tryd.prog 9 #[.agg #[.int .i64 a0_0, .int .i64 a0_1, .int .i64 a0_2, .int .i64 a0_3, .int .i64 a0_4, .int .i64 a0_5, .int .i64 a0_6, .int .i64 a0_7, .int .i64 a0_8, .int .i64 a0_9, .int .i64 a0_10, .int .i64 a0_11, .int .i64 a0_12, .int .i64 a0_13, .int .i64 a0_14]] w fun e w' => e = .returned (.bool true) ∧ Below w.heap.size w w' := by
  have hA : AttsLie w := attsH hL
  obtain ⟨X, ok, hX, CS, CI⟩ : ∃ (X : List Fnd) (ok : Bool), X.length ≤ 1000 ∧ (∀ W, Calls Tryd.prog 45 #[.agg #[.int .i64 a0_0, .int .i64 a0_1, .int .i64 a0_2, .int .i64 a0_3, .int .i64 a0_4, .int .i64 a0_5, .int .i64 a0_6, .int .i64 a0_7, .int .i64 a0_8, .int .i64 a0_9, .int .i64 a0_10, .int .i64 a0_11, .int .i64 a0_12, .int .i64 a0_13, .int .i64 a0_14]] W (AnsFn W X ok)) ∧ (∀ W, Below w.heap.size w W → Calls Tryd.prog 44 #[.agg #[.int .i64 a0_0, .int .i64 a0_1, .int .i64 a0_2, .int .i64 a0_3, .int .i64 a0_4, .int .i64 a0_5, .int .i64 a0_6, .int .i64 a0_7, .int .i64 a0_8, .int .i64 a0_9, .int .i64 a0_10, .int .i64 a0_11, .int .i64 a0_12, .int .i64 a0_13, .int .i64 a0_14]] W (AnsFn W X ok)) := by
    obtain ⟨r, hr⟩ : ∃ r, aOkB a0_0 a0_1 a0_2 a0_3 a0_4 a0_5 a0_6 a0_7 a0_8 a0_9 a0_10 a0_11 a0_12 a0_13 a0_14 = r := ⟨_, rfl⟩
    refine ⟨LF a0_4 (if r = true then FA a0_0 a0_2 a0_3 a0_6 a0_10 a0_14 else []), r, ?_, ?_, ?_⟩
    · refine Nat.le_trans (LF_len _ _) ?_
      cases r
      · simp
      · exact Nat.le_trans (FL_len _ _ _ 3) (by omega)
    · intro W
      cases r
      · rw [show LF a0_4 (if false = true then FA a0_0 a0_2 a0_3 a0_6 a0_10 a0_14 else []) = [] by unfold LF; split <;> rfl]
        exact lenient_spec_no a0_0 a0_1 a0_2 a0_3 a0_4 a0_5 a0_6 a0_7 a0_8 a0_9 a0_10 a0_11 a0_12 a0_13 a0_14 W hr
      · exact lenient_spec_yes a0_0 a0_1 a0_2 a0_3 a0_4 a0_5 a0_6 a0_7 a0_8 a0_9 a0_10 a0_11 a0_12 a0_13 a0_14 W hr (FA a0_0 a0_2 a0_3 a0_6 a0_10 a0_14) (FL_len _ _ _ 3) (fun W' => l8Findings_any a0_0 a0_1 a0_2 a0_3 a0_4 a0_5 a0_6 a0_7 a0_8 a0_9 a0_10 a0_11 a0_12 a0_13 a0_14 W' hr)
    · intro W hb
      refine lenient_impl a0_0 a0_1 a0_2 a0_3 a0_4 a0_5 a0_6 a0_7 a0_8 a0_9 a0_10 a0_11 a0_12 a0_13 a0_14 W _ r ?_ ?_ (fun W' hb' => find_impl a0_0 a0_1 a0_2 a0_3 a0_4 a0_5 a0_6 a0_7 a0_8 a0_9 a0_10 a0_11 a0_12 a0_13 a0_14 W' r hr (fun e => (aOk_out (hr.trans e)).1) (hA.below (hb.trans (hb'.mono hb.size))))
      · cases r
        · exact .inl (by simp)
        · exact FL_parts _ _ _
      · cases r
        · simp
        · exact FL_len _ _ _ 3
  clear w0 hA hL
  have HT := Lib.hid (fun W => toArms_any a0_0 a0_1 a0_2 a0_3 a0_4 a0_5 a0_6 a0_7 a0_8 a0_9 a0_10 a0_11 a0_12 a0_13 a0_14 W)
  obtain ⟨N, hN⟩ : ∃ N, X.length = N := ⟨_, rfl⟩
  have HN := Lib.hid hN
  have hX2 : N ≤ 1000 := by omega
  have e0 : decide ((1 : Int) + (N : Int) * 3 < 0) = false := by simp; omega
  unfold AnsFn at CS CI
  rw [hN] at CS CI
  clear hX hN
  have HS := Lib.hid CS
  have HI := Lib.hid CI
  clear CS CI
  have b0 := BoxF.new w [.int .i64 a0_0, .int .i64 a0_1, .int .i64 a0_2, .int .i64 a0_3, .int .i64 a0_4, .int .i64 a0_5, .int .i64 a0_6, .int .i64 a0_7, .int .i64 a0_8, .int .i64 a0_9, .int .i64 a0_10, .int .i64 a0_11, .int .i64 a0_12, .int .i64 a0_13, .int .i64 a0_14] 75
  have D0 := Lib.hid ((Below.refl _ w).alloc (Nat.le_refl _) (.cells #[.int .i64 a0_0, .int .i64 a0_1, .int .i64 a0_2, .int .i64 a0_3, .int .i64 a0_4, .int .i64 a0_5, .int .i64 a0_6, .int .i64 a0_7, .int .i64 a0_8, .int .i64 a0_9, .int .i64 a0_10, .int .i64 a0_11, .int .i64 a0_12, .int .i64 a0_13, .int .i64 a0_14] 75 (0, 0)))
  obtain ⟨x0, x1, x2, x3, x4, x5, x6, x7, x8, x9, x10, x11, x12, x13, x14, xf⟩ := b0.fifteen
  clear b0
  cases ok
  all_goals
    go_enter Tryd.func9, Tryd.ntmps9
    go_wp2_with fail
    refine (HT.out _).mono ?_
    rintro e V1 ⟨rfl, d1⟩
    have X1 := Lib.hid ((BoxF.new w [.int .i64 a0_0, .int .i64 a0_1, .int .i64 a0_2, .int .i64 a0_3, .int .i64 a0_4, .int .i64 a0_5, .int .i64 a0_6, .int .i64 a0_7, .int .i64 a0_8, .int .i64 a0_9, .int .i64 a0_10, .int .i64 a0_11, .int .i64 a0_12, .int .i64 a0_13, .int .i64 a0_14] 75).below d1)
    have D1 := Lib.hid (((Below.refl _ w).alloc (Nat.le_refl _) _).trans (d1.mono (by simp)))
    clear d1 x0 x1 x2 x3 x4 x5 x6 x7 x8 x9 x10 x11 x12 x13 x14 xf
    go_wp2_with fail
    refine (HS.out _).mono ?_
    rintro e W1 ⟨g0, c0, rfl, ho0v, hb1v⟩
    have X2 := X1.out.below hb1v
    have HX2 := Lib.hid X2
    have hx1 := X2.lt
    obtain ⟨x0, x1, x2, x3, x4, x5, x6, x7, x8, x9, x10, x11, x12, x13, x14, xf⟩ := X2.fifteen
    have HB1 := Lib.hid (D1.out.trans (hb1v.mono D1.out.size))
    have R00 := Lib.hid (rdFn_of HN.out ho0v)
    clear ho0v hb1v X2 X1 D1
    go_wp2_with fail
    refine (HT.out _).mono ?_
    rintro e V2 ⟨rfl, d2⟩
    have D2 := Lib.hid d2
    clear d2 x0 x1 x2 x3 x4 x5 x6 x7 x8 x9 x10 x11 x12 x13 x14 xf
    go_wp2_with fail
    refine (HI.out _ (HB1.out.trans (D2.out.mono HB1.out.size))).mono ?_
    rintro e W2 ⟨g1, cc1, rfl, ho1v, hb2v⟩
    have hb2 := D2.out.trans (hb2v.mono D2.out.size)
    have HB2 := Lib.hid (HB1.out.trans (hb2.mono HB1.out.size))
    have ho1 := ho1v.low D2.out.size
    have X3 := Lib.hid (HX2.out.below hb2)
    have R0 := Lib.hid (R00.out.below hb2)
    have R1 := Lib.hid (rdFn_of HN.out ho1)
    have S12 := Lib.hid hb2.size
    have HO1 := Lib.hid ho1
    clear ho1v hb2v D2 HB1 HX2 ho1 hb2
    go_wp2_with fail
    refine (eqFindingS_true X N _ _ _ _ _ R1.out R0.out (by omega)).mono ?_
    rintro e W2' ⟨rfl, bq⟩
    have HO1' := Lib.hid (HO1.out.below bq)
    have X3' := Lib.hid (X3.out.below bq)
    have R0' := Lib.hid (R0.out.below bq)
    have HB2' := Lib.hid (HB2.out.trans (bq.mono HB2.out.size))
    have S12' := Lib.hid (Nat.le_trans S12.out bq.size)
    clear bq HO1 X3 R0 R1 HB2 S12
    go_wp2_with fail
    refine (markF1 X N W1.heap.size cc1 g1 W2' HN.out HO1'.out (by omega)).mono ?_
    rintro e W3 ⟨rfl, hh3, hg3⟩
    have hne : ∀ q, (Value.slice g1 N cc1).ownBlock = some q → W1.heap.size ≤ q := fun q e2 => (World.ownsRow.lt HO1'.out q e2).1
    have hle1 : W1.heap.size ≤ W2'.heap.size := S12'.out
    have X4 := X3'.out.kept hg3 (fun e => by have := hne _ e.symm; omega)
    have r0' : RdFn W3 g0 N X := rdFn_grown R00.out R0'.out hg3 hne
    have HB3 := Lib.hid (HB2'.out.grown hg3 HB2'.out.size (fun q hq => by have := hne q hq; omega))
    obtain ⟨x0, x1, x2, x3, x4, x5, x6, x7, x8, x9, x10, x11, x12, x13, x14, xf⟩ := X4.fifteen
    have R0'' := Lib.hid r0'
    have H3 := Lib.hid hh3
    clear r0' hg3 hh3 hne X4 X3' R0' R00 HO1' HB2' S12' hle1
    go_wp2_with fail
    refine (heldF1 N _ _ _ H3.out (by omega)).mono ?_
    rintro e W4 ⟨rfl, m4, rfl⟩
    go_wp2_with fail
    refine (HT.out _).mono ?_
    rintro e V5 ⟨rfl, d5⟩
    have D5 := Lib.hid d5
    clear d5 x0 x1 x2 x3 x4 x5 x6 x7 x8 x9 x10 x11 x12 x13 x14 xf
    go_wp2_with fail
    refine (HI.out _ ((below_drewN' HB3.out m4).trans (D5.out.mono (below_drewN' HB3.out m4).size))).mono ?_
    rintro e W5 ⟨g2, cc2, rfl, ho2, hb5v⟩
    have hb5 := D5.out.trans (hb5v.mono D5.out.size)
    have Q2 := Lib.hid (rdFn_of HN.out ho2)
    have Q0 := Lib.hid ((show RdFn (W3.drewN m4) g0 N X from R0''.out).below hb5)
    have Q3 := Lib.hid ((show HeldF (W3.drewN m4) g1 N from H3.out).below hb5)
    have HB5 := Lib.hid ((below_drewN' HB3.out m4).trans (hb5.mono (below_drewN' HB3.out m4).size))
    clear ho2 hb5v hb5 D5 R0'' H3 HB3
    go_wp2_with fail
    refine (eqFindingS_true X N _ _ _ _ _ Q2.out Q0.out (by omega)).mono ?_
    rintro e W5' ⟨rfl, b5'⟩
    have Q3' := Lib.hid (Q3.out.below b5')
    have HB6 := Lib.hid (HB5.out.trans (b5'.mono HB5.out.size))
    clear b5' Q0 Q2 Q3 HB5
    go_wp2_with fail
    refine (heldF1 N _ _ _ Q3'.out (by omega)).mono ?_
    rintro e W6 ⟨rfl, m6, rfl⟩
    go_wp2_with fail
    go_ret
    exact ⟨rfl, below_drewN' HB6.out _⟩

/-! ### THE ROW's STEP: WRITTEN OUT: LEAVE IT -/
set_option maxRecDepth 100000 in
set_option maxHeartbeats 4000000 in
theorem lifted (os : Os) (started : os.Started) (H : Type) (enc : TypeId × Value → H) :
    ReturnsInHanded {} Tryd.checked os 9 .any (fun w args => (Rows.fnExactLenientFindingsSpec.pre enc Tryd.prog Tryd.f9 Rows.fnExactLenientFindingsRow.domain false w args ∧ laidMetH Tryd.prog laidL w) ∧ sizedMet enc Tryd.prog Tryd.f9 (OpenSpec.ofChange Rows.fnExactLenientFindingsSpec) false w args)
      (Rows.fnExactLenientFindingsSpec.post enc Tryd.prog Tryd.f9 false true false false) := by
  refine returnsInHanded_of_change_and (C := Tryd.checked) (X := fun w _ => laidMetH Tryd.prog laidL w) (fun _ _ _ hh h => h.of_heap hh) own started (by kernel_rfl) Tryd.func9
    (ChangeSpec.witness_shaped (enc := enc) (C := Tryd.checked) (os := os) (X := fun w _ => laidMetH Tryd.prog laidL w) false (World.doorLaid Tryd.prog 400 os) #[.agg #[.int .i64 0, .int .i64 0, .int .i64 0, .int .i64 0, .int .i64 0, .int .i64 0, .int .i64 0, .int .i64 0, .int .i64 0, .int .i64 0, .int .i64 0, .int .i64 0, .int .i64 0, .int .i64 0, .int .i64 0]] 8 rfl (World.shaped_of_RefB (by kernel_rfl) (by kernel_rfl)) (by kernel_rfl) (by kernel_rfl) (by kernel_rfl) (door_met os _)) ?_
  intro W base args ds gs before hval0 hW _ hsz0 hL _
  have hval : ∀ (j : Nat) t v, Tryd.f9.params[j]? = some t → args[j]? = some v → Value.okWide Tryd.prog W .any base t v := hval0
  have hW' := hW
  obtain ⟨p, q, hA0, hV, rfl, hfz, hnd⟩ := hW
  have hA : DataW.TrodAll enc Tryd.prog W 0 (fun _ => true) true Tryd.f9.params.toList args.toList ds p := hA0
  rw [Tryd.params9] at hA hval
  obtain ⟨v0, vs0, d0, ds0, p0, q0, hargs, rfl, rfl, h0, r0⟩ := trodAll_cons hA
  obtain ⟨rfl, rfl, rfl⟩ := trodAll_nil r0
  obtain rfl : args = #[v0] := by cases args; simp_all
  obtain ⟨gv, tv, csv, fuelv, dv, pv, hgs, _⟩ := trodVars_one hV
  subst hgs
  have k0 := h0
  have lt0 : ∀ x ∈ p0, x.block < W.heap.size := by obtain ⟨m, hm⟩ := k0; exact DataW.trod_lt m _ _ _ hm
  obtain ⟨a0_0, a0_1, a0_2, a0_3, a0_4, a0_5, a0_6, a0_7, a0_8, a0_9, a0_10, a0_11, a0_12, a0_13, a0_14, rfl, w0⟩ : ∃ a0_0 a0_1 a0_2 a0_3 a0_4 a0_5 a0_6 a0_7 a0_8 a0_9 a0_10 a0_11 a0_12 a0_13 a0_14 : Int, v0 = .agg #[.int .i64 a0_0, .int .i64 a0_1, .int .i64 a0_2, .int .i64 a0_3, .int .i64 a0_4, .int .i64 a0_5, .int .i64 a0_6, .int .i64 a0_7, .int .i64 a0_8, .int .i64 a0_9, .int .i64 a0_10, .int .i64 a0_11, .int .i64 a0_12, .int .i64 a0_13, .int .i64 a0_14] ∧ ∀ z ∈ [a0_0, a0_1, a0_2, a0_3, a0_4, a0_5, a0_6, a0_7, a0_8, a0_9, a0_10, a0_11, a0_12, a0_13, a0_14], (Lit.int .i64 z).wf = true := by
    obtain ⟨zs, hl, rfl, hw⟩ := flat_open (n := 15) Tryd.underlying75 (by kernel_rfl) (by kernel_rfl) (hval 0 75 v0 rfl rfl) h0
    obtain ⟨a0_0, a0_1, a0_2, a0_3, a0_4, a0_5, a0_6, a0_7, a0_8, a0_9, a0_10, a0_11, a0_12, a0_13, a0_14, rfl⟩ := cells15 hl
    exact ⟨a0_0, a0_1, a0_2, a0_3, a0_4, a0_5, a0_6, a0_7, a0_8, a0_9, a0_10, a0_11, a0_12, a0_13, a0_14, rfl, hw⟩
  clear hA0 hval0
  refine (walk a0_0 a0_1 a0_2 a0_3 a0_4 a0_5 a0_6 a0_7 a0_8 a0_9 a0_10 a0_11 a0_12 a0_13 a0_14 w0 W hL).mono fun e W' ⟨he, bel⟩ => ?_
  subst he
  exact ⟨_, rfl, _, _, _, [], _, q, hW', (trodAll_cons_mk (shut_bool Tryd.underlying4 _) trodAll_mk0), (trodAll_cons_mk (Below.trod (by kernel_rfl) (by kernel_rfl) (of_decide_eq_true (by kernel_rfl)) k0 bel lt0) trodAll_mk0), Below.trodVars (by kernel_rfl) bel (by kernel_rfl) hV, bel.frame _, fun h => by cases h⟩

theorem over : Rows.fnExactLenientFindingsRow.holds Tryd.pinned (OpenSpec.ofChange Rows.fnExactLenientFindingsSpec) :=
  OpenClaim.holds_of_wide 9 Tryd.f9 rfl rfl rfl rfl rfl rfl rfl ⟨rfl, rfl, rfl, rfl, rfl⟩ rfl rfl rfl rfl rfl (by kernel_rfl) Tryd.func9 (by kernel_rfl)
    (of_decide_eq_true (by kernel_rfl)) (by unfold Func.isWrapper; first | (rw [if_pos (by decide +kernel)]; kernel_rfl) | (rw [if_neg (by decide +kernel)]; exact ⟨rfl, rfl⟩))
    (fun os started H enc _ => lifted os started H enc)

/-- The row's statement. -/
theorem proved : Rows.FnExactLenientFindingsSaid :=
  over

/-- THE TIED CARD: the listed variables are those that the program's own text lays. -/
theorem card : Rows.FnExactLenientFindingsCardSaid :=
  Claim7.holds_tied_plain_at .later [] [.widerDeep] true (true, "e4408f4ede5ec6f8c1c13af787bb5d3b18a6a4432b9bbd0dbd0e59aeefa9dca4") true
    proved (fun _ h => by cases h) (by kernel_rfl) (fun _ h => by cases h) fnExactLenientFindings_row_tie rfl ⟨rfl, rfl⟩ (by kernel_rfl) rfl
    (fun f fn hf hfn => by
      obtain rfl : f = 9 := Option.some.inj ((show Tryd.prog.funcNamed "loop.example/g00884/laws.FnExactLenientFindings" = some 9 by kernel_rfl).symm.trans hf) |>.symm
      obtain rfl : fn = Tryd.f9 := (Option.some.inj (Tryd.func9.symm.trans hfn)).symm
      exact ⟨by kernel_rfl, fun j t ht => by
        rw [Tryd.params9] at ht
        have hm : t ∈ [75] := by
          have := Array.mem_of_getElem? ht
          first | simpa using this | (simp at this ⊢; omega) | (simp at this ⊢; rcases this with h | h <;> simp [h])
        have hall : ([75].all fun u => !Tryd.prog.wantsStandIn u) = true := by kernel_rfl
        exact (show Tryd.prog.wantsStandIn t = false by simpa using List.all_eq_true.1 hall t hm)⟩)
    (by kernel_rfl)
#print axioms card
end Go.Proofs.YtgoelkgdjnhklaaDoor.fnExactLenientFindings
