/- FnExactRowsOf: at every number the law returns true: RowsOf of the program answers as its model does, in memory of its own. The card ties the table to the program's text. No condition. -/
import Derived.Test.YtklfkdmmclomoaaDoorRows
import Derived.Test.YtklfkdmmclomoaaDoorCards
import Derived.Test.YtklfkdmmclomoaaDoorTie
import Derived.WalkKit
import Derived.ProofKit
import Derived.OpenShut
import Derived.ShutString
import Derived.Test.YtklfkdmmclomoaaDoorRRows
import Derived.LaidMore
import Derived.Stop.Joined
import Derived.SevenTiedAt
import Derived.OpenVars
import Derived.ChangeVars
import Derived.Below
namespace Go.Proofs.YtklfkdmmclomoaaDoor.fnExactRowsOf
open Go.ChangeShapes Go.WideShapes Go.ChangeAt Go.RowKit
open Go.ChangeMaps (open_string shut_string)
set_option linter.unusedVariables false      -- a walk need not use every 'w<i>' (that an integer argument fits its kind)

def laidL : List (String × DataW Unit) := [("loop.example/g00884/impl.rowsOfCharges", Rows.laid_loop_example_g00884_impl_rowsOfCharges)]

/-- The door's own heap meets the condition. -/
theorem door_met (os : Os) (args : Array Value) : laidMetH Tryd.prog laidL ((World.doorLaid Tryd.prog 400 os).forCall (fun _ _ => 0) ⟨#[], args, []⟩).memory :=
  laidMetH_of_parts3 (fuel := 8) (laidMet_of_run' 8 (by kernel_rfl) (by kernel_rfl)) (by kernel_rfl) (by kernel_rfl)

theorem own : ownKnob Tryd.prog.godebug = none := by kernel_rfl

/-! ### STEP 1: THE WALK: the Go text returns true. 'Grown w w'': the world has at most new blocks (Derived/RowKit3.lean). Part the cases AHEAD of 'go_enter' where a test parts the walk; take each callee by a contract of your own. -/
theorem walk (a0 : Int) (w0 : (Lit.int .i64 a0).wf = true) (w : World) (hL : laidMetH Tryd.prog laidL w) :
    Calls Tryd.prog 12 #[.int .i64 a0] w fun e w' => e = .returned (.bool true) ∧ Below w.heap.size w w' := by
  have hT : RowsLie w := rowsH hL
  obtain ⟨X, ok, hX, CS, CI'⟩ : ∃ (X : List Int) (ok : Bool), X.length ≤ 1000 ∧ (∀ W, Calls Tryd.prog 39 #[.int .i64 a0] W (Ans W X ok)) ∧ (∀ W, Below w.heap.size w W → Calls Tryd.prog 21 #[.int .i64 a0] W (Ans W X ok)) := by
    by_cases h : 1 ≤ a0 ∧ a0 ≤ 6
    · exact ⟨_, true, rowL_len a0, fun W => rows_spec a0 W h.1 h.2, fun W hb => rows_impl a0 W h.1 h.2 (hT.below hb)⟩
    · exact ⟨[], false, by simp, fun W => rows_spec_no a0 W (by omega), fun W hb => rows_impl_no a0 W (by omega)⟩
  have CI := CI'
  clear hL hT CI'
  clear w0
  obtain ⟨N, hN⟩ : ∃ N, X.length = N := ⟨_, rfl⟩
  have HN := Lib.hid hN
  have hX2 : N ≤ 1000 := by omega
  have e0 : decide ((1 : Int) + (N : Int) < 0) = false := by simp; omega
  unfold Ans at CS CI
  rw [hN] at CS CI
  clear hX hN
  have HS := Lib.hid CS
  have HI := Lib.hid CI
  clear CS CI
  cases ok
  all_goals
    go_enter Tryd.func12, Tryd.ntmps12
    go_wp2_with fail
    refine (HS.out _).mono ?_
    rintro e W1 ⟨g0, c0, rfl, ho0, hb1⟩
    go_wp2_with fail
    refine (HI.out _ hb1).mono ?_
    rintro e W2 ⟨g1, c1, rfl, ho1, hb2⟩
    have r0 := ho0.rd.below hb2
    have r1 := ho1.rd
    go_wp2_with fail
    refine (eqIntS_true X N _ _ _ _ _ r1 r0 (by omega)).mono ?_
    rintro e W2' ⟨rfl, m, rfl⟩
    go_wp2_with fail
    refine (mark1 X N W1.heap.size c1 g1 (W2.drewN m) ho1 (by omega)).mono ?_
    rintro e W3 ⟨rfl, ho3, hg3⟩
    have hs1 := hb1.size
    have hs2 := hb2.size
    have r0' : RdI W3 g0 N X := ⟨r0.1, fun hn => by
      obtain ⟨b, o, e, hlt, hc⟩ := ho0.rd.2 hn
      obtain ⟨b', o', e', hlt', hc'⟩ := r0.2 hn
      rw [e] at e'
      cases e'
      refine ⟨b, o, e, Nat.lt_of_lt_of_le hlt' hg3.size, fun k hk => (hg3.cell (hc' k hk) (fun e2 => ?_))⟩
      rcases ho1.shape with ⟨rfl, h0, _⟩ | ⟨q, rfl, hq, _⟩
      · omega
      · simp [Value.ownBlock] at e2; omega⟩
    have r3 := ho3.rd
    have B3 : Below w.heap.size w W3 := (below_drewN' (hb1.trans (hb2.mono hs1)) m).grown hg3 (Nat.le_trans hs1 hs2) (fun q hq => by
      have := (World.ownsRow.lt ho1 q hq).1
      omega)
    clear r0 r1 hg3
    go_wp2_with fail
    refine (held1 N _ _ _ r3 (by omega)).mono ?_
    rintro e W4 ⟨rfl, m4, rfl⟩
    go_wp2_with fail
    refine (HI.out _ (below_drewN' B3 m4)).mono ?_
    rintro e W5 ⟨g2, c2, rfl, ho2, hb5⟩
    go_wp2_with fail
    refine (eqIntS_true X N _ _ _ _ _ ho2.rd ((r0'.drewN m4).below hb5) (by omega)).mono ?_
    rintro e W5' ⟨rfl, m', rfl⟩
    go_wp2_with fail
    refine (held1 N _ _ (W5.drewN m') (((r3.drewN m4).below hb5).drewN m') (by omega)).mono ?_
    rintro e W6 ⟨rfl, m6, rfl⟩
    go_wp2_with fail
    go_ret
    have B4 := below_drewN' B3 m4
    exact ⟨rfl, below_drewN' (B4.trans (hb5.mono B4.size)) _⟩

/-! ### THE ROW's STEP: WRITTEN OUT: LEAVE IT -/
set_option maxRecDepth 100000 in
theorem lifted (os : Os) (started : os.Started) (H : Type) (enc : TypeId × Value → H) :
    ReturnsInHanded {} Tryd.checked os 12 .any (fun w args => (Rows.fnExactRowsOfSpec.pre enc Tryd.prog Tryd.f12 Rows.fnExactRowsOfRow.domain false w args ∧ laidMetH Tryd.prog laidL w) ∧ sizedMet enc Tryd.prog Tryd.f12 (OpenSpec.ofChange Rows.fnExactRowsOfSpec) false w args)
      (Rows.fnExactRowsOfSpec.post enc Tryd.prog Tryd.f12 false true false false) := by
  refine returnsInHanded_of_change_and (C := Tryd.checked) (X := fun w _ => laidMetH Tryd.prog laidL w) (fun _ _ _ hh h => h.of_heap hh) own started (by kernel_rfl) Tryd.func12
    (ChangeSpec.witness_shaped (enc := enc) (C := Tryd.checked) (os := os) (X := fun w _ => laidMetH Tryd.prog laidL w) false (World.doorLaid Tryd.prog 400 os) #[.int .i64 0] 8 rfl (World.shaped_of_RefB (by kernel_rfl) (by kernel_rfl)) (by kernel_rfl) (by kernel_rfl) (by kernel_rfl) (door_met os _)) ?_
  intro W base args ds gs before hval0 hW _ hsz0 hL _
  have hval : ∀ (j : Nat) t v, Tryd.f12.params[j]? = some t → args[j]? = some v → Value.okWide Tryd.prog W .any base t v := hval0
  have hW' := hW
  obtain ⟨p, q, hA0, hV, rfl, hfz, hnd⟩ := hW
  have hA : DataW.TrodAll enc Tryd.prog W 0 (fun _ => true) true Tryd.f12.params.toList args.toList ds p := hA0
  rw [Tryd.params12] at hA hval
  obtain ⟨v0, vs0, d0, ds0, p0, q0, hargs, rfl, rfl, h0, r0⟩ := trodAll_cons hA
  obtain ⟨rfl, rfl, rfl⟩ := trodAll_nil r0
  obtain rfl : args = #[v0] := by cases args; simp_all
  obtain ⟨gv, tv, csv, fuelv, dv, pv, hgs, _⟩ := trodVars_one hV
  subst hgs
  obtain ⟨a0, rfl, rfl, rfl, w0⟩ := open_int Tryd.underlying3 (hval 0 3 v0 rfl rfl) h0
  clear hA0 hval0
  refine (walk a0 w0 W hL).mono fun e W' ⟨he, bel⟩ => ?_
  subst he
  exact ⟨_, rfl, _, _, _, [], [], q, hW', (trodAll_cons_mk (shut_bool Tryd.underlying4 _) trodAll_mk0), (trodAll_cons_mk (shut_int Tryd.underlying3 w0) trodAll_mk0), Below.trodVars (by kernel_rfl) bel (by kernel_rfl) hV, bel.frame _, fun h => by cases h⟩

theorem over : Rows.fnExactRowsOfRow.holds Tryd.pinned (OpenSpec.ofChange Rows.fnExactRowsOfSpec) :=
  OpenClaim.holds_of_wide 12 Tryd.f12 rfl rfl rfl rfl rfl rfl rfl ⟨rfl, rfl, rfl, rfl, rfl⟩ rfl rfl rfl rfl rfl (by kernel_rfl) Tryd.func12 (by kernel_rfl)
    (of_decide_eq_true (by kernel_rfl)) (by unfold Func.isWrapper; first | (rw [if_pos (by decide +kernel)]; kernel_rfl) | (rw [if_neg (by decide +kernel)]; exact ⟨rfl, rfl⟩))
    (fun os started H enc _ => lifted os started H enc)

/-- The row's statement. -/
theorem proved : Rows.FnExactRowsOfSaid :=
  over

/-- THE TIED CARD: the listed variables are those that the program's own text lays. -/
theorem card : Rows.FnExactRowsOfCardSaid :=
  Claim7.holds_tied_plain_at .later [] [.widerDeep] true (true, "5345184ecfd63a51511ccb799623285e2c420bb998cecc5c2c6c155aed650024") false
    proved (fun _ h => by cases h) (by kernel_rfl) (fun _ h => by cases h) fnExactRowsOf_row_tie rfl ⟨rfl, rfl⟩ (by kernel_rfl) rfl
    (fun f fn hf hfn => by
      obtain rfl : f = 12 := Option.some.inj ((show Tryd.prog.funcNamed "loop.example/g00884/laws.FnExactRowsOf" = some 12 by kernel_rfl).symm.trans hf) |>.symm
      obtain rfl : fn = Tryd.f12 := (Option.some.inj (Tryd.func12.symm.trans hfn)).symm
      exact ⟨by kernel_rfl, fun j t ht => by
        rw [Tryd.params12] at ht
        have hm : t ∈ [3] := by
          have := Array.mem_of_getElem? ht
          simpa using this
        have hall : ([3].all fun u => !Tryd.prog.wantsStandIn u) = true := by kernel_rfl
        exact (show Tryd.prog.wantsStandIn t = false by simpa using List.all_eq_true.1 hall t hm)⟩)
    (by kernel_rfl)
#print axioms card
end Go.Proofs.YtklfkdmmclomoaaDoor.fnExactRowsOf
