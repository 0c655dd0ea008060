/- FnExactPlainField: at every number the law returns true: PlainField of the program answers as its model does. No condition. -/
import Derived.Test.YtmogabnngphfgaaRows
import Derived.WalkKit
import Derived.ProofKit
import Derived.OpenShut
import Derived.ShutString
import Derived.Test.YtmogabnngphfgaaFLaw
import Derived.Below
namespace Go.Proofs.Ytmogabnngphfgaa.fnExactPlainField
open Go.ChangeShapes Go.WideShapes Go.ChangeAt Go.RowKit
open Go.ChangeMaps (open_string shut_string)
set_option linter.unusedVariables false      -- a walk need not use every 'w<i>' (that an integer argument fits its kind)

theorem own : ownKnob Try.prog.godebug = none := by kernel_rfl

/-! ### STEP 1: THE WALK: the Go text returns true. 'Grown w w'': the world has at most new blocks (Derived/RowKit3.lean). Part the cases AHEAD of 'go_enter' where a test parts the walk; take each callee by a contract of your own. -/
theorem walk (a0 : Int) (w0 : (Lit.int .i64 a0).wf = true) (w : World) :
    Calls Try.prog 7 #[.int .i64 a0] w fun e w' => e = .returned (.bool true) ∧ Below w.heap.size w w' := by
  obtain ⟨d, l, f, s, ok, cs, ci⟩ : ∃ d l f s ok, (∀ W, Calls Try.prog 26 #[.int .i64 a0] W (AnsF W d l f s ok)) ∧ (∀ W, Calls Try.prog 27 #[.int .i64 a0] W (AnsF W d l f s ok)) := by
    by_cases h : 1 ≤ a0 ∧ a0 ≤ 9
    · exact ⟨_, _, _, _, true, fun W => plain_spec _ W h.1 h.2, fun W => plain_impl _ W h.1 h.2⟩
    · exact ⟨_, _, _, _, false, fun W => plain_spec_no a0 W (by omega), fun W => plain_impl_no a0 W (by omega)⟩
  clear w0
  have HQ := Lib.hid (fun W => eqField_same d l f s W)
  have HS := Lib.hid cs
  have HI := Lib.hid ci
  clear cs ci
  cases ok
  all_goals
    go_enter Try.func7, Try.ntmps7
    go_wp2_with fail
    refine (HS.out _).mono ?_
    rintro e W1 ⟨rfl, b1⟩
    have Y1 := Lib.hid (Box.new W1 [.int .i64 d, .int .i64 l, .int .i64 f, .int .i64 s] 25)
    have D2 := Lib.hid (b1.alloc (by have := b1.size; omega) (.cells #[.int .i64 d, .int .i64 l, .int .i64 f, .int .i64 s] 25 (0, 0)))
    clear b1
    go_wp2_with fail
    refine (HI.out _).mono ?_
    rintro e W2 ⟨rfl, b2⟩
    have Y3 := Y1.out.below b2
    have y0 := Y3.2 0 _ rfl
    have y1 := Y3.2 1 _ rfl
    have y2 := Y3.2 2 _ rfl
    have y3 := Y3.2 3 _ rfl
    have hy := Y3.1
    have D4 := Lib.hid ((D2.out.trans (b2.mono D2.out.size)).alloc (by have := (D2.out.trans (b2.mono D2.out.size)).size; omega) (.cells #[.int .i64 d, .int .i64 l, .int .i64 f, .int .i64 s] 25 (0, 0)))
    clear b2 D2 Y1 Y3
    go_wp2_with fail
    refine (HQ.out _).mono ?_
    rintro e W3 ⟨rfl, b3⟩
    go_wp2_with fail
    go_ret
    exact ⟨rfl, D4.out.trans (b3.mono D4.out.size)⟩

/-! ### THE ROW's STEP: WRITTEN OUT: LEAVE IT -/
set_option maxRecDepth 100000 in
theorem lifted (os : Os) (started : os.Started) (H : Type) (enc : TypeId × Value → H) :
    ReturnsInHanded {} Try.checked os 7 .any (Rows.fnExactPlainFieldSpec.pre6 enc Try.prog Try.f7 Rows.fnExactPlainFieldRow.domain false) (Rows.fnExactPlainFieldSpec.post enc Try.prog Try.f7 false true false false) := by
  refine returnsInHanded_of_change (C := Try.checked) own started (by kernel_rfl) Try.func7
    (ChangeSpec.witness6 (enc := enc) (C := Try.checked) false ⟨#[], #[.int .i64 0], []⟩ 8 (by kernel_rfl) (by kernel_rfl) (by kernel_rfl) (by kernel_rfl)) ?_
  intro W base args ds gs before hval0 hW hcnd _
  have hval : ∀ (j : Nat) t v, Try.f7.params[j]? = some t → args[j]? = some v → Value.okWide Try.prog W .any base t v := hval0
  have hW' := hW
  obtain ⟨p, q, hA0, hV, rfl, hfz, hnd⟩ := hW
  have hA : DataW.TrodAll enc Try.prog W 0 (fun _ => true) true Try.f7.params.toList args.toList ds p := hA0
  rw [Try.params7] at hA hval
  obtain ⟨v0, vs0, d0, ds0, p0, q0, hargs, rfl, rfl, h0, r0⟩ := trodAll_cons hA
  obtain ⟨rfl, rfl, rfl⟩ := trodAll_nil r0
  obtain rfl : args = #[v0] := by cases args; simp_all
  obtain ⟨rfl, rfl⟩ := trodVars_none hV
  obtain ⟨a0, rfl, rfl, rfl, w0⟩ := open_int Try.underlying3 (hval 0 3 v0 rfl rfl) h0
  clear hA0 hval0
  simp only [List.append_nil] at hW'
  refine (walk a0 w0 W).mono fun e W' ⟨he, bel⟩ => ?_
  subst he
  exact ⟨_, rfl, _, _, _, [], [], [], hW', (trodAll_cons_mk (shut_bool Try.underlying4 _) trodAll_mk0), (trodAll_cons_mk (shut_int Try.underlying3 w0) trodAll_mk0), rfl, bel.frame _, fun h => by cases h⟩

theorem over : Rows.fnExactPlainFieldRow.holds Try.pinned (OpenSpec.ofChange Rows.fnExactPlainFieldSpec) :=
  OpenClaim.holds_of_wide 7 Try.f7 rfl rfl rfl rfl rfl rfl rfl ⟨rfl, rfl, rfl, rfl, rfl⟩ rfl rfl rfl rfl rfl (by kernel_rfl) Try.func7 (by kernel_rfl)
    (of_decide_eq_true (by kernel_rfl)) (by unfold Func.isWrapper; first | (rw [if_pos (by decide +kernel)]; kernel_rfl) | (rw [if_neg (by decide +kernel)]; exact ⟨rfl, rfl⟩))
    (fun os started H enc _ => lifted os started H enc)

/-- ████ THE STATEMENT ████ -/
theorem proved : Rows.FnExactPlainFieldSaid :=
  over
#print axioms proved
end Go.Proofs.Ytmogabnngphfgaa.fnExactPlainField
