/- FnExactSwapField: at every field the law returns true: SwapField of the program answers as its model does. No condition. -/
import Derived.Test.YtmogabnngphfgaaRows
import Derived.WalkKit
import Derived.ProofKit
import Derived.OpenShut
import Derived.ShutString
import Derived.Test.YtmogabnngphfgaaFLaw
import Derived.Below
import Derived.Test.YtmogabnngphfgaaFlat
namespace Go.Proofs.Ytmogabnngphfgaa.fnExactSwapField
open Go.ChangeShapes Go.WideShapes Go.ChangeAt Go.RowKit
open Go.ChangeMaps (open_string shut_string)
set_option linter.unusedVariables false      -- a walk need not use every 'w<i>' (that an integer argument fits its kind)

theorem cells4 {zs : List Int} (h : zs.length = 4) : ∃ x0 x1 x2 x3 : Int, zs = [x0, x1, x2, x3] := by
  match zs, h with
  | [x0, x1, x2, x3], _ => exact ⟨x0, x1, x2, x3, rfl⟩

theorem own : ownKnob Try.prog.godebug = none := by kernel_rfl

/-! ### STEP 1: THE WALK: the Go text returns true. 'Grown w w'': the world has at most new blocks (Derived/RowKit3.lean). Part the cases AHEAD of 'go_enter' where a test parts the walk; take each callee by a contract of your own. -/
theorem walk (a0_0 a0_1 a0_2 a0_3 : Int) (w0 : ∀ z ∈ [a0_0, a0_1, a0_2, a0_3], (Lit.int .i64 z).wf = true) (w : World) :
    Calls Try.prog 6 #[.agg #[.int .i64 a0_0, .int .i64 a0_1, .int .i64 a0_2, .int .i64 a0_3]] w fun e w' => e = .returned (.bool true) ∧ Below w.heap.size w w' := by
  obtain ⟨d, l, f, s, ok, cs, ci⟩ : ∃ d l f s ok, (∀ W, Calls Try.prog 23 #[.agg #[.int .i64 a0_0, .int .i64 a0_1, .int .i64 a0_2, .int .i64 a0_3]] W (AnsF W d l f s ok)) ∧ (∀ W, Calls Try.prog 24 #[.agg #[.int .i64 a0_0, .int .i64 a0_1, .int .i64 a0_2, .int .i64 a0_3]] W (AnsF W d l f s ok)) := by
    by_cases h : FOk a0_0 a0_1 a0_2 a0_3
    · by_cases h0 : a0_0 = 0
      · exact ⟨_, _, _, _, true, fun W => swap_spec0 _ _ _ _ W h h0, fun W => swap_impl0 _ _ _ _ W h h0⟩
      · exact ⟨_, _, _, _, true, fun W => swap_spec1 _ _ _ _ W h h0, fun W => swap_impl1 _ _ _ _ W h h0⟩
    · exact ⟨_, _, _, _, false, fun W => swap_spec_no _ _ _ _ W h, fun W => swap_impl_no _ _ _ _ W h⟩
  clear w0
  have HT := Lib.hid (fun W => toField_any a0_0 a0_1 a0_2 a0_3 W)
  have HQ := Lib.hid (fun W => eqField_same d l f s W)
  have HS := Lib.hid cs
  have HI := Lib.hid ci
  clear cs ci
  cases ok
  all_goals
    go_enter Try.func6, Try.ntmps6
    go_wp2_with fail
    refine (HT.out _).mono ?_
    rintro e V1 ⟨rfl, d1⟩
    have X1 := Lib.hid ((Box.new w [.int .i64 a0_0, .int .i64 a0_1, .int .i64 a0_2, .int .i64 a0_3] 30).below d1)
    have D1 := Lib.hid (((Below.refl _ w).alloc (Nat.le_refl _) _).trans (d1.mono (by simp)))
    clear d1
    go_wp2_with fail
    refine (HS.out _).mono ?_
    rintro e W1 ⟨rfl, b1⟩
    have X2 := X1.out.below b1
    have c0 := X2.2 0 _ rfl
    have c1 := X2.2 1 _ rfl
    have c2 := X2.2 2 _ rfl
    have c3 := X2.2 3 _ rfl
    have hx1 := X2.1
    have Y1 := Lib.hid (Box.new W1 [.int .i64 d, .int .i64 l, .int .i64 f, .int .i64 s] 25)
    have D2 := Lib.hid ((D1.out.trans (b1.mono D1.out.size)).alloc (by have := X2.1; omega) (.cells #[.int .i64 d, .int .i64 l, .int .i64 f, .int .i64 s] 25 (0, 0)))
    clear b1 X2 X1 D1
    go_wp2_with fail
    refine (HT.out _).mono ?_
    rintro e V2 ⟨rfl, d2⟩
    have D3 := Lib.hid (D2.out.trans (d2.mono D2.out.size))
    have Y2 := Lib.hid (Y1.out.below d2)
    clear Y1 d2 c0 c1 c2 c3 D2
    go_wp2_with fail
    refine (HI.out _).mono ?_
    rintro e W2 ⟨rfl, b2⟩
    have Y3 := Y2.out.below b2
    have y0 := Y3.2 0 _ rfl
    have y1 := Y3.2 1 _ rfl
    have y2 := Y3.2 2 _ rfl
    have y3 := Y3.2 3 _ rfl
    have hy := Y3.1
    have D4 := Lib.hid ((D3.out.trans (b2.mono D3.out.size)).alloc (by have := (D3.out.trans (b2.mono D3.out.size)).size; omega) (.cells #[.int .i64 d, .int .i64 l, .int .i64 f, .int .i64 s] 25 (0, 0)))
    clear b2 D3 Y2 Y3
    go_wp2_with fail
    refine (HQ.out _).mono ?_
    rintro e W3 ⟨rfl, b3⟩
    go_wp2_with fail
    go_ret
    exact ⟨rfl, D4.out.trans (b3.mono D4.out.size)⟩

/-! ### THE ROW's STEP: WRITTEN OUT: LEAVE IT -/
set_option maxRecDepth 100000 in
set_option maxHeartbeats 4000000 in
theorem lifted (os : Os) (started : os.Started) (H : Type) (enc : TypeId × Value → H) :
    ReturnsInHanded {} Try.checked os 6 .any (Rows.fnExactSwapFieldSpec.pre6 enc Try.prog Try.f6 Rows.fnExactSwapFieldRow.domain false) (Rows.fnExactSwapFieldSpec.post enc Try.prog Try.f6 false true false false) := by
  refine returnsInHanded_of_change (C := Try.checked) own started (by kernel_rfl) Try.func6
    (ChangeSpec.witness6 (enc := enc) (C := Try.checked) false ⟨#[], #[.agg #[.int .i64 0, .int .i64 0, .int .i64 0, .int .i64 0]], []⟩ 8 (by kernel_rfl) (by kernel_rfl) (by kernel_rfl) (by kernel_rfl)) ?_
  intro W base args ds gs before hval0 hW hcnd _
  have hval : ∀ (j : Nat) t v, Try.f6.params[j]? = some t → args[j]? = some v → Value.okWide Try.prog W .any base t v := hval0
  have hW' := hW
  obtain ⟨p, q, hA0, hV, rfl, hfz, hnd⟩ := hW
  have hA : DataW.TrodAll enc Try.prog W 0 (fun _ => true) true Try.f6.params.toList args.toList ds p := hA0
  rw [Try.params6] at hA hval
  obtain ⟨v0, vs0, d0, ds0, p0, q0, hargs, rfl, rfl, h0, r0⟩ := trodAll_cons hA
  obtain ⟨rfl, rfl, rfl⟩ := trodAll_nil r0
  obtain rfl : args = #[v0] := by cases args; simp_all
  obtain ⟨rfl, rfl⟩ := trodVars_none hV
  have k0 := h0
  have lt0 : ∀ x ∈ p0, x.block < W.heap.size := by obtain ⟨m, hm⟩ := k0; exact DataW.trod_lt m _ _ _ hm
  obtain ⟨a0_0, a0_1, a0_2, a0_3, rfl, w0⟩ : ∃ a0_0 a0_1 a0_2 a0_3 : Int, v0 = .agg #[.int .i64 a0_0, .int .i64 a0_1, .int .i64 a0_2, .int .i64 a0_3] ∧ ∀ z ∈ [a0_0, a0_1, a0_2, a0_3], (Lit.int .i64 z).wf = true := by
    obtain ⟨zs, hl, rfl, hw⟩ := flat_open (n := 4) Try.underlying30 (by kernel_rfl) (by kernel_rfl) (hval 0 30 v0 rfl rfl) h0
    obtain ⟨a0_0, a0_1, a0_2, a0_3, rfl⟩ := cells4 hl
    exact ⟨a0_0, a0_1, a0_2, a0_3, rfl, hw⟩
  clear hA0 hval0
  refine (walk a0_0 a0_1 a0_2 a0_3 w0 W).mono fun e W' ⟨he, bel⟩ => ?_
  subst he
  exact ⟨_, rfl, _, _, _, [], _, [], hW', (trodAll_cons_mk (shut_bool Try.underlying4 _) trodAll_mk0), (trodAll_cons_mk (Below.trod (by kernel_rfl) (by kernel_rfl) (of_decide_eq_true (by kernel_rfl)) k0 bel lt0) trodAll_mk0), rfl, bel.frame _, fun h => by cases h⟩

theorem over : Rows.fnExactSwapFieldRow.holds Try.pinned (OpenSpec.ofChange Rows.fnExactSwapFieldSpec) :=
  OpenClaim.holds_of_wide 6 Try.f6 rfl rfl rfl rfl rfl rfl rfl ⟨rfl, rfl, rfl, rfl, rfl⟩ rfl rfl rfl rfl rfl (by kernel_rfl) Try.func6 (by kernel_rfl)
    (of_decide_eq_true (by kernel_rfl)) (by unfold Func.isWrapper; first | (rw [if_pos (by decide +kernel)]; kernel_rfl) | (rw [if_neg (by decide +kernel)]; exact ⟨rfl, rfl⟩))
    (fun os started H enc _ => lifted os started H enc)

/-- ████ THE STATEMENT ████ -/
theorem proved : Rows.FnExactSwapFieldSaid :=
  over
#print axioms proved
end Go.Proofs.Ytmogabnngphfgaa.fnExactSwapField
