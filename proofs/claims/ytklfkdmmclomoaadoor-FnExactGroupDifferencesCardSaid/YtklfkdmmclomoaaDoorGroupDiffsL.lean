/- FnExactGroupDifferences: at every two groups the law returns true: GroupDifferences of the program answers as its model does. The card ties the table of attitudes to the program's text. No condition. -/
import Derived.Test.YtklfkdmmclomoaaDoorRows
import Derived.Test.YtklfkdmmclomoaaDoorCards
import Derived.Test.YtklfkdmmclomoaaDoorTie
import Derived.WalkKit
import Derived.ProofKit
import Derived.OpenShut
import Derived.ShutString
import Derived.Test.YtklfkdmmclomoaaDoorRGroups2
import Derived.LaidMore
import Derived.Stop.Joined
import Derived.SevenTiedAt
import Derived.OpenVars
import Derived.ChangeVars
import Derived.Below
import Derived.Test.YtklfkdmmclomoaaDoorFlat
namespace Go.Proofs.YtklfkdmmclomoaaDoor.fnExactGroupDifferences
open Go.ChangeShapes Go.WideShapes Go.ChangeAt Go.RowKit
open Go.ChangeMaps (open_string shut_string)
set_option linter.unusedVariables false      -- a walk need not use every 'w<i>' (that an integer argument fits its kind)

theorem cells4 {zs : List Int} (h : zs.length = 4) : ∃ x0 x1 x2 x3 : Int, zs = [x0, x1, x2, x3] := by
  match zs, h with
  | [x0, x1, x2, x3], _ => exact ⟨x0, x1, x2, x3, rfl⟩

def laidL : List (String × DataW Unit) := [("loop.example/g00884/impl.attitudeWords", Rows.laid_loop_example_g00884_impl_attitudeWords)]

/-- The door's own heap meets the condition. -/
theorem door_met (os : Os) (args : Array Value) : laidMetH Tryd.prog laidL ((World.doorLaid Tryd.prog 400 os).forCall (fun _ _ => 0) ⟨#[], args, []⟩).memory :=
  laidMetH_of_parts3 (fuel := 8) (laidMet_of_run' 8 (by kernel_rfl) (by kernel_rfl)) (by kernel_rfl) (by kernel_rfl)

theorem own : ownKnob Tryd.prog.godebug = none := by kernel_rfl

/-! ### STEP 1: THE WALK: the Go text returns true. 'Grown w w'': the world has at most new blocks (Derived/RowKit3.lean). Part the cases AHEAD of 'go_enter' where a test parts the walk; take each callee by a contract of your own. -/
set_option maxHeartbeats 4000000 in
theorem walk (a0_0 a0_1 a0_2 a0_3 : Int) (a1_0 a1_1 a1_2 a1_3 : Int) (w0 : ∀ z ∈ [a0_0, a0_1, a0_2, a0_3], (Lit.int .i64 z).wf = true) (w1 : ∀ z ∈ [a1_0, a1_1, a1_2, a1_3], (Lit.int .i64 z).wf = true) (w : World) (hL : laidMetH Tryd.prog laidL w) :
    Calls Tryd.prog 10 #[.agg #[.int .i64 a0_0, .int .i64 a0_1, .int .i64 a0_2, .int .i64 a0_3], .agg #[.int .i64 a1_0, .int .i64 a1_1, .int .i64 a1_2, .int .i64 a1_3]] w fun e w' => e = .returned (.bool true) ∧ Below w.heap.size w w' := by
  have hA : AttsLie w := attsH hL
  obtain ⟨z, ok, cs, ci⟩ : ∃ (z : Int) (ok : Bool), (∀ W, Calls Tryd.prog 27 #[.agg #[.int .i64 a0_0, .int .i64 a0_1, .int .i64 a0_2, .int .i64 a0_3], .agg #[.int .i64 a1_0, .int .i64 a1_1, .int .i64 a1_2, .int .i64 a1_3]] W fun e w' => e = .returned (.tuple #[.int .i64 z, .bool ok]) ∧ Below W.heap.size W w') ∧ (∀ W, Below w.heap.size w W → Calls Tryd.prog 26 #[.agg #[.int .i64 a0_0, .int .i64 a0_1, .int .i64 a0_2, .int .i64 a0_3], .agg #[.int .i64 a1_0, .int .i64 a1_1, .int .i64 a1_2, .int .i64 a1_3]] W fun e w' => e = .returned (.tuple #[.int .i64 z, .bool ok]) ∧ Below W.heap.size W w') := by
    exact ⟨_, _, fun W => groupDiff_spec _ _ _ _ _ _ _ _ W _ rfl, fun W hb => groupDiff_impl _ _ _ _ _ _ _ _ W _ rfl (hA.below hb)⟩
  clear w0 w1 hA hL
  have HA := Lib.hid (fun W => toGroup_any a0_0 a0_1 a0_2 a0_3 W)
  have HB := Lib.hid (fun W => toGroup_any a1_0 a1_1 a1_2 a1_3 W)
  have HS := Lib.hid cs
  have HI := Lib.hid ci
  clear cs ci
  obtain ⟨W0, hW0⟩ : ∃ W0 : World, W0 = (w.alloc (.cells #[.int .i64 a0_0, .int .i64 a0_1, .int .i64 a0_2, .int .i64 a0_3] 41 (0, 0))).alloc (.cells #[.int .i64 a1_0, .int .i64 a1_1, .int .i64 a1_2, .int .i64 a1_3] 41 (0, 0)) := ⟨_, rfl⟩
  have D0 : Below w.heap.size w W0 := by rw [hW0]; exact box2 (Below.refl _ _)
  have kb := Box.new (w.alloc (.cells #[.int .i64 a0_0, .int .i64 a0_1, .int .i64 a0_2, .int .i64 a0_3] 41 (0, 0))) [.int .i64 a1_0, .int .i64 a1_1, .int .i64 a1_2, .int .i64 a1_3] 41
  rw [World.size_alloc] at kb
  have KA := Lib.hid (show Box W0 w.heap.size [.int .i64 a0_0, .int .i64 a0_1, .int .i64 a0_2, .int .i64 a0_3] from hW0 ▸ (Box.new w [.int .i64 a0_0, .int .i64 a0_1, .int .i64 a0_2, .int .i64 a0_3] 41).alloc (.cells #[.int .i64 a1_0, .int .i64 a1_1, .int .i64 a1_2, .int .i64 a1_3] 41 (0, 0)))
  have KB := Lib.hid (show Box W0 (w.heap.size + 1) [.int .i64 a1_0, .int .i64 a1_1, .int .i64 a1_2, .int .i64 a1_3] from hW0 ▸ kb)
  have HW0 := Lib.hid hW0
  have HD0 := Lib.hid D0
  clear kb hW0 D0
  have ez : (z != z) = false := by simp
  cases ok
  all_goals
    go_enter Tryd.func10, Tryd.ntmps10
    go_wp2_with fail
    go_region_with (first
      | (go_at_call 28; (with_reducible refine (HA.out _).mono ?_); rintro e w1 ⟨rfl, hba⟩; have hA : Below W0.heap.size W0 w1 := (by rw [HW0.out]; exact ⟨hba.os, hba.tape, hba.output, hba.size, hba.block⟩); have K1 := KB.out.below hA; have r0 := K1.2 0 _ rfl; have r1 := K1.2 1 _ rfl; have r2 := K1.2 2 _ rfl; have r3 := K1.2 3 _ rfl; have HA1 := Lib.hid hA; clear K1 hA hba)
      | (go_at_call 28; (with_reducible refine (HB.out _).mono ?_); rintro e w2 ⟨rfl, hbb⟩; have hB : Below w1.heap.size w1 w2 := ⟨hbb.os, hbb.tape, hbb.output, hbb.size, hbb.block⟩; have HA2 := Lib.hid (HA1.out.trans (hB.mono HA1.out.size)); clear hB hbb)
      | (go_at_call 27; refine (HS.out _).mono ?_; rintro e w3 ⟨rfl, hbs⟩; have hS : Below w2.heap.size w2 w3 := ⟨hbs.os, hbs.tape, hbs.output, hbs.size, hbs.block⟩; have HA3 := Lib.hid (HA2.out.trans (hS.mono HA2.out.size)); clear hS hbs))
    all_goals
      have K1 := KA.out.below HA3.out
      have K2 := KB.out.below HA3.out
      clear r0 r1 r2 r3
      obtain ⟨p0, p1, p2, p3⟩ := (⟨K1.2 0 _ rfl, K1.2 1 _ rfl, K1.2 2 _ rfl, K1.2 3 _ rfl⟩ : _ ∧ _ ∧ _ ∧ _)
      obtain ⟨q0, q1, q2, q3⟩ := (⟨K2.2 0 _ rfl, K2.2 1 _ rfl, K2.2 2 _ rfl, K2.2 3 _ rfl⟩ : _ ∧ _ ∧ _ ∧ _)
      have KB3 := Lib.hid K2
      have HT3 := Lib.hid (HD0.out.trans (HA3.out.mono HD0.out.size))
      clear K1 K2 HA1 HA2 HA3 KA KB HW0 HD0
      go_wp2_with fail
      go_region_with (first
        | (go_at_call 28; (with_reducible refine (HA.out _).mono ?_); rintro e w4 ⟨rfl, hba⟩; have hA : Below w3.heap.size w3 w4 := ⟨hba.os, hba.tape, hba.output, hba.size, hba.block⟩; have K1 := KB3.out.below hA; have r0 := K1.2 0 _ rfl; have r1 := K1.2 1 _ rfl; have r2 := K1.2 2 _ rfl; have r3 := K1.2 3 _ rfl; have HT4 := Lib.hid (HT3.out.trans (hA.mono HT3.out.size)); clear K1 hA hba)
        | (go_at_call 28; (with_reducible refine (HB.out _).mono ?_); rintro e w5 ⟨rfl, hbb⟩; have hB : Below w4.heap.size w4 w5 := ⟨hbb.os, hbb.tape, hbb.output, hbb.size, hbb.block⟩; have HT5 := Lib.hid (HT4.out.trans (hB.mono HT4.out.size)); clear hB hbb)
        | (go_at_call 26; refine (HI.out _ ⟨HT5.out.os, HT5.out.tape, HT5.out.output, HT5.out.size, HT5.out.block⟩).mono ?_; rintro e w6 ⟨rfl, hbs⟩; have hS : Below w5.heap.size w5 w6 := ⟨hbs.os, hbs.tape, hbs.output, hbs.size, hbs.block⟩; have HT6 := Lib.hid (HT5.out.trans (hS.mono HT5.out.size)); clear hS hbs))
      all_goals
        clear r0 r1 r2 r3 p0 p1 p2 p3 q0 q1 q2 q3 HT3 HT4 HT5
        go_wp2_with fail
        go_ret
        exact ⟨rfl, HT6.out⟩

/-! ### THE ROW's STEP: WRITTEN OUT: LEAVE IT -/
set_option maxRecDepth 100000 in
set_option maxHeartbeats 4000000 in
theorem lifted (os : Os) (started : os.Started) (H : Type) (enc : TypeId × Value → H) :
    ReturnsInHanded {} Tryd.checked os 10 .any (fun w args => (Rows.fnExactGroupDifferencesSpec.pre enc Tryd.prog Tryd.f10 Rows.fnExactGroupDifferencesRow.domain false w args ∧ laidMetH Tryd.prog laidL w) ∧ sizedMet enc Tryd.prog Tryd.f10 (OpenSpec.ofChange Rows.fnExactGroupDifferencesSpec) false w args)
      (Rows.fnExactGroupDifferencesSpec.post enc Tryd.prog Tryd.f10 false true false false) := by
  refine returnsInHanded_of_change_and (C := Tryd.checked) (X := fun w _ => laidMetH Tryd.prog laidL w) (fun _ _ _ hh h => h.of_heap hh) own started (by kernel_rfl) Tryd.func10
    (ChangeSpec.witness_shaped (enc := enc) (C := Tryd.checked) (os := os) (X := fun w _ => laidMetH Tryd.prog laidL w) false (World.doorLaid Tryd.prog 400 os) #[.agg #[.int .i64 0, .int .i64 0, .int .i64 0, .int .i64 0], .agg #[.int .i64 0, .int .i64 0, .int .i64 0, .int .i64 0]] 8 rfl (World.shaped_of_RefB (by kernel_rfl) (by kernel_rfl)) (by kernel_rfl) (by kernel_rfl) (by kernel_rfl) (door_met os _)) ?_
  intro W base args ds gs before hval0 hW _ hsz0 hL _
  have hval : ∀ (j : Nat) t v, Tryd.f10.params[j]? = some t → args[j]? = some v → Value.okWide Tryd.prog W .any base t v := hval0
  have hW' := hW
  obtain ⟨p, q, hA0, hV, rfl, hfz, hnd⟩ := hW
  have hA : DataW.TrodAll enc Tryd.prog W 0 (fun _ => true) true Tryd.f10.params.toList args.toList ds p := hA0
  rw [Tryd.params10] at hA hval
  obtain ⟨v0, vs0, d0, ds0, p0, q0, hargs, rfl, rfl, h0, r0⟩ := trodAll_cons hA
  obtain ⟨v1, vs1, d1, ds1, p1, q1, rfl, rfl, rfl, h1, r1⟩ := trodAll_cons r0
  obtain ⟨rfl, rfl, rfl⟩ := trodAll_nil r1
  obtain rfl : args = #[v0, v1] := by cases args; simp_all
  obtain ⟨gv, tv, csv, fuelv, dv, pv, hgs, _⟩ := trodVars_one hV
  subst hgs
  have k0 := h0
  have lt0 : ∀ x ∈ p0, x.block < W.heap.size := by obtain ⟨m, hm⟩ := k0; exact DataW.trod_lt m _ _ _ hm
  obtain ⟨a0_0, a0_1, a0_2, a0_3, rfl, w0⟩ : ∃ a0_0 a0_1 a0_2 a0_3 : Int, v0 = .agg #[.int .i64 a0_0, .int .i64 a0_1, .int .i64 a0_2, .int .i64 a0_3] ∧ ∀ z ∈ [a0_0, a0_1, a0_2, a0_3], (Lit.int .i64 z).wf = true := by
    obtain ⟨zs, hl, rfl, hw⟩ := flat_open (n := 4) Tryd.underlying41 (by kernel_rfl) (by kernel_rfl) (hval 0 41 v0 rfl rfl) h0
    obtain ⟨a0_0, a0_1, a0_2, a0_3, rfl⟩ := cells4 hl
    exact ⟨a0_0, a0_1, a0_2, a0_3, rfl, hw⟩
  have k1 := h1
  have lt1 : ∀ x ∈ p1, x.block < W.heap.size := by obtain ⟨m, hm⟩ := k1; exact DataW.trod_lt m _ _ _ hm
  obtain ⟨a1_0, a1_1, a1_2, a1_3, rfl, w1⟩ : ∃ a1_0 a1_1 a1_2 a1_3 : Int, v1 = .agg #[.int .i64 a1_0, .int .i64 a1_1, .int .i64 a1_2, .int .i64 a1_3] ∧ ∀ z ∈ [a1_0, a1_1, a1_2, a1_3], (Lit.int .i64 z).wf = true := by
    obtain ⟨zs, hl, rfl, hw⟩ := flat_open (n := 4) Tryd.underlying41 (by kernel_rfl) (by kernel_rfl) (hval 1 41 v1 rfl rfl) h1
    obtain ⟨a1_0, a1_1, a1_2, a1_3, rfl⟩ := cells4 hl
    exact ⟨a1_0, a1_1, a1_2, a1_3, rfl, hw⟩
  clear hA0 hval0
  refine (walk a0_0 a0_1 a0_2 a0_3 a1_0 a1_1 a1_2 a1_3 w0 w1 W hL).mono fun e W' ⟨he, bel⟩ => ?_
  subst he
  exact ⟨_, rfl, _, _, _, [], _, q, hW', (trodAll_cons_mk (shut_bool Tryd.underlying4 _) trodAll_mk0), (trodAll_cons_mk (Below.trod (by kernel_rfl) (by kernel_rfl) (of_decide_eq_true (by kernel_rfl)) k0 bel lt0) (trodAll_cons_mk (Below.trod (by kernel_rfl) (by kernel_rfl) (of_decide_eq_true (by kernel_rfl)) k1 bel lt1) trodAll_mk0)), Below.trodVars (by kernel_rfl) bel (by kernel_rfl) hV, bel.frame _, fun h => by cases h⟩

theorem over : Rows.fnExactGroupDifferencesRow.holds Tryd.pinned (OpenSpec.ofChange Rows.fnExactGroupDifferencesSpec) :=
  OpenClaim.holds_of_wide 10 Tryd.f10 rfl rfl rfl rfl rfl rfl rfl ⟨rfl, rfl, rfl, rfl, rfl⟩ rfl rfl rfl rfl rfl (by kernel_rfl) Tryd.func10 (by kernel_rfl)
    (of_decide_eq_true (by kernel_rfl)) (by unfold Func.isWrapper; first | (rw [if_pos (by decide +kernel)]; kernel_rfl) | (rw [if_neg (by decide +kernel)]; exact ⟨rfl, rfl⟩))
    (fun os started H enc _ => lifted os started H enc)

/-- The row's statement. -/
theorem proved : Rows.FnExactGroupDifferencesSaid :=
  over

/-- THE TIED CARD: the listed variables are those that the program's own text lays. -/
theorem card : Rows.FnExactGroupDifferencesCardSaid :=
  Claim7.holds_tied_plain_at .later [] [.widerDeep] true (true, "5345184ecfd63a51511ccb799623285e2c420bb998cecc5c2c6c155aed650024") false
    proved (fun _ h => by cases h) (by kernel_rfl) (fun _ h => by cases h) fnExactGroupDifferences_row_tie rfl ⟨rfl, rfl⟩ (by kernel_rfl) rfl
    (fun f fn hf hfn => by
      obtain rfl : f = 10 := Option.some.inj ((show Tryd.prog.funcNamed "loop.example/g00884/laws.FnExactGroupDifferences" = some 10 by kernel_rfl).symm.trans hf) |>.symm
      obtain rfl : fn = Tryd.f10 := (Option.some.inj (Tryd.func10.symm.trans hfn)).symm
      exact ⟨by kernel_rfl, fun j t ht => by
        rw [Tryd.params10] at ht
        have hm : t ∈ [41] := by
          have := Array.mem_of_getElem? ht
          simpa using this
        have hall : ([41].all fun u => !Tryd.prog.wantsStandIn u) = true := by kernel_rfl
        exact (show Tryd.prog.wantsStandIn t = false by simpa using List.all_eq_true.1 hall t hm)⟩)
    (by kernel_rfl)
#print axioms card
end Go.Proofs.YtklfkdmmclomoaaDoor.fnExactGroupDifferences
