/- FnExactBaseTinctures: at every number the law returns true: BaseTinctures of the program answers as its model does, in memory of its own. No condition. -/
import Derived.Test.YtflfdngcgebmmaaRows
import Derived.WalkKit
import Derived.ProofKit
import Derived.OpenShut
import Derived.ShutString
import Derived.Test.YtflfdngcgebmmaaBases
import Derived.Below
namespace Go.Proofs.Ytflfdngcgebmmaa.fnExactBaseTinctures
open Go.ChangeShapes Go.WideShapes Go.ChangeAt Go.RowKit
open Go.ChangeMaps (open_string shut_string)
set_option linter.unusedVariables false      -- a walk need not use every 'w<i>' (that an integer argument fits its kind)

theorem own : ownKnob Try.prog.godebug = none := by kernel_rfl

/-! ### STEP 1: THE WALK: the Go text returns true. 'Grown w w'': the world has at most new blocks (Derived/RowKit3.lean). Part the cases AHEAD of 'go_enter' where a test parts the walk; take each callee by a contract of your own. -/
theorem walk (a0 : Int) (w0 : (Lit.int .i64 a0).wf = true) (w : World) :
    Calls Try.prog 6 #[.int .i64 a0] w fun e w' => e = .returned (.bool true) ∧ Below w.heap.size w w' := by
  obtain ⟨X, ok, hX, CS, CI⟩ : ∃ (X : List Int) (ok : Bool), X.length ≤ 1000 ∧ (∀ W, Calls Try.prog 22 #[.int .i64 a0] W (Ans W X ok)) ∧ (∀ W, Calls Try.prog 23 #[.int .i64 a0] W (Ans W X ok)) := by
    by_cases h : 1 ≤ a0 ∧ a0 ≤ 9
    · exact ⟨_, true, Nat.le_trans (base_len a0) (by omega), fun W => base_spec a0 W h.1 h.2, fun W => base_impl a0 W h.1 h.2⟩
    · exact ⟨[], false, by simp, fun W => base_spec_no a0 W (by omega), fun W => base_impl_no a0 W (by omega)⟩
  clear w0
  obtain ⟨N, hN⟩ : ∃ N, X.length = N := ⟨_, rfl⟩
  have HN := Lib.hid hN
  have hX2 : N ≤ 1000 := by omega
  have e0 : decide ((1 : Int) + (N : Int) < 0) = false := by simp; omega
  unfold Ans at CS CI
  rw [hN] at CS CI
  clear hX hN
  have HS := Lib.hid CS
  have HI := Lib.hid CI
  clear CS CI
  cases ok
  all_goals
    go_enter Try.func6, Try.ntmps6
    go_wp2_with fail
    refine (HS.out _).mono ?_
    rintro e W1 ⟨g0, c0, rfl, ho0, hb1⟩
    go_wp2_with fail
    refine (HI.out _).mono ?_
    rintro e W2 ⟨g1, c1, rfl, ho1, hb2⟩
    have r0 := ho0.rd.below hb2
    have r1 := ho1.rd
    go_wp2_with fail
    refine (eqIntS_true X N _ _ _ _ _ r1 r0 (by omega)).mono ?_
    rintro e W2' ⟨rfl, m, rfl⟩
    go_wp2_with fail
    refine (mark1 X N W1.heap.size c1 g1 (W2.drewN m) ho1 (by omega)).mono ?_
    rintro e W3 ⟨rfl, ho3, hg3⟩
    have hs1 := hb1.size
    have hs2 := hb2.size
    have r0' : RdI W3 g0 N X := ⟨r0.1, fun hn => by
      obtain ⟨b, o, e, hlt, hc⟩ := ho0.rd.2 hn
      obtain ⟨b', o', e', hlt', hc'⟩ := r0.2 hn
      rw [e] at e'
      cases e'
      refine ⟨b, o, e, Nat.lt_of_lt_of_le hlt' hg3.size, fun k hk => (hg3.cell (hc' k hk) (fun e2 => ?_))⟩
      rcases ho1.shape with ⟨rfl, h0, _⟩ | ⟨q, rfl, hq, _⟩
      · omega
      · simp [Value.ownBlock] at e2; omega⟩
    have r3 := ho3.rd
    have B3 : Below w.heap.size w W3 := (below_drewN' (hb1.trans (hb2.mono hs1)) m).grown hg3 (Nat.le_trans hs1 hs2) (fun q hq => by
      have := (World.ownsRow.lt ho1 q hq).1
      omega)
    clear r0 r1 hg3
    go_wp2_with fail
    refine (held1 N _ _ _ r3 (by omega)).mono ?_
    rintro e W4 ⟨rfl, m4, rfl⟩
    go_wp2_with fail
    refine (HI.out _).mono ?_
    rintro e W5 ⟨g2, c2, rfl, ho2, hb5⟩
    go_wp2_with fail
    refine (eqIntS_true X N _ _ _ _ _ ho2.rd ((r0'.drewN m4).below hb5) (by omega)).mono ?_
    rintro e W5' ⟨rfl, m', rfl⟩
    go_wp2_with fail
    refine (held1 N _ _ (W5.drewN m') (((r3.drewN m4).below hb5).drewN m') (by omega)).mono ?_
    rintro e W6 ⟨rfl, m6, rfl⟩
    go_wp2_with fail
    go_ret
    have B4 := below_drewN' B3 m4
    exact ⟨rfl, below_drewN' (B4.trans (hb5.mono B4.size)) _⟩

/-! ### THE ROW's STEP: WRITTEN OUT: LEAVE IT -/
set_option maxRecDepth 100000 in
theorem lifted (os : Os) (started : os.Started) (H : Type) (enc : TypeId × Value → H) :
    ReturnsInHanded {} Try.checked os 6 .any (Rows.fnExactBaseTincturesSpec.pre6 enc Try.prog Try.f6 Rows.fnExactBaseTincturesRow.domain false) (Rows.fnExactBaseTincturesSpec.post enc Try.prog Try.f6 false true false false) := by
  refine returnsInHanded_of_change (C := Try.checked) own started (by kernel_rfl) Try.func6
    (ChangeSpec.witness6 (enc := enc) (C := Try.checked) false ⟨#[], #[.int .i64 0], []⟩ 8 (by kernel_rfl) (by kernel_rfl) (by kernel_rfl) (by kernel_rfl)) ?_
  intro W base args ds gs before hval0 hW hcnd _
  have hval : ∀ (j : Nat) t v, Try.f6.params[j]? = some t → args[j]? = some v → Value.okWide Try.prog W .any base t v := hval0
  have hW' := hW
  obtain ⟨p, q, hA0, hV, rfl, hfz, hnd⟩ := hW
  have hA : DataW.TrodAll enc Try.prog W 0 (fun _ => true) true Try.f6.params.toList args.toList ds p := hA0
  rw [Try.params6] at hA hval
  obtain ⟨v0, vs0, d0, ds0, p0, q0, hargs, rfl, rfl, h0, r0⟩ := trodAll_cons hA
  obtain ⟨rfl, rfl, rfl⟩ := trodAll_nil r0
  obtain rfl : args = #[v0] := by cases args; simp_all
  obtain ⟨rfl, rfl⟩ := trodVars_none hV
  obtain ⟨a0, rfl, rfl, rfl, w0⟩ := open_int Try.underlying3 (hval 0 3 v0 rfl rfl) h0
  clear hA0 hval0
  simp only [List.append_nil] at hW'
  refine (walk a0 w0 W).mono fun e W' ⟨he, bel⟩ => ?_
  subst he
  exact ⟨_, rfl, _, _, _, [], [], [], hW', (trodAll_cons_mk (shut_bool Try.underlying4 _) trodAll_mk0), (trodAll_cons_mk (shut_int Try.underlying3 w0) trodAll_mk0), rfl, bel.frame _, fun h => by cases h⟩

theorem over : Rows.fnExactBaseTincturesRow.holds Try.pinned (OpenSpec.ofChange Rows.fnExactBaseTincturesSpec) :=
  OpenClaim.holds_of_wide 6 Try.f6 rfl rfl rfl rfl rfl rfl rfl ⟨rfl, rfl, rfl, rfl, rfl⟩ rfl rfl rfl rfl rfl (by kernel_rfl) Try.func6 (by kernel_rfl)
    (of_decide_eq_true (by kernel_rfl)) (by unfold Func.isWrapper; first | (rw [if_pos (by decide +kernel)]; kernel_rfl) | (rw [if_neg (by decide +kernel)]; exact ⟨rfl, rfl⟩))
    (fun os started H enc _ => lifted os started H enc)

/-- ████ THE STATEMENT ████ -/
theorem proved : Rows.FnExactBaseTincturesSaid :=
  over
#print axioms proved
end Go.Proofs.Ytflfdngcgebmmaa.fnExactBaseTinctures
