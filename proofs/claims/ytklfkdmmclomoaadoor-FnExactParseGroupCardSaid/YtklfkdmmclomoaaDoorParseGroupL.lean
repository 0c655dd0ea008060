/- FnExactParseGroup: at every string the law returns true: ParseGroup of the program answers as its model does. The card ties the tables of words to the program's text. No condition. -/
import Derived.Test.YtklfkdmmclomoaaDoorRows
import Derived.Test.YtklfkdmmclomoaaDoorCards
import Derived.Test.YtklfkdmmclomoaaDoorTie
import Derived.WalkKit
import Derived.ProofKit
import Derived.OpenShut
import Derived.ShutString
import Derived.Test.YtklfkdmmclomoaaDoorGRead
import Derived.Test.YtklfkdmmclomoaaDoorGSParse
import Derived.LaidMore
import Derived.Stop.Joined
import Derived.SevenTiedAt
import Derived.OpenVars
import Derived.ChangeVars
import Derived.Below
namespace Go.Proofs.YtklfkdmmclomoaaDoor.fnExactParseGroup
open Go.ChangeShapes Go.WideShapes Go.ChangeAt Go.RowKit
open Go.ChangeMaps (open_string shut_string)
set_option linter.unusedVariables false      -- a walk need not use every 'w<i>' (that an integer argument fits its kind)

def laidL : List (String × DataW Unit) := [("loop.example/g00884/impl.tinctureWords", Rows.laid_loop_example_g00884_impl_tinctureWords), ("loop.example/g00884/impl.countWords", Rows.laid_loop_example_g00884_impl_countWords), ("loop.example/g00884/impl.kindWords", Rows.laid_loop_example_g00884_impl_kindWords), ("loop.example/g00884/impl.attitudeWords", Rows.laid_loop_example_g00884_impl_attitudeWords)]

/-- The door's own heap meets the condition. -/
theorem door_met (os : Os) (args : Array Value) : laidMetH Tryd.prog laidL ((World.doorLaid Tryd.prog 400 os).forCall (fun _ _ => 0) ⟨#[], args, []⟩).memory :=
  laidMetH_of_parts3 (fuel := 8) (laidMet_of_run' 8 (by kernel_rfl) (by kernel_rfl)) (by kernel_rfl) (by kernel_rfl)

theorem readings {H : Type} {enc : TypeId × Value → H} {P : Program} {w : World} {spare : Nat → Bool} {n0 n1 n2 n3 : String} {gs : List (DataW H)} {ps : List MemPlace} (h : DataW.TrodVars enc P w spare [n0, n1, n2, n3] gs ps) : ∃ gv0 gv1 gv2 gv3 : DataW H, gs = [gv0, gv1, gv2, gv3] := by
  cases gs with
  | nil => simp [DataW.TrodVars] at h
  | cons g0 gs =>
  obtain ⟨_, _, _, _, _, _, _, _, _, _, h, _⟩ := h
  cases gs with
  | nil => simp [DataW.TrodVars] at h
  | cons g1 gs =>
  obtain ⟨_, _, _, _, _, _, _, _, _, _, h, _⟩ := h
  cases gs with
  | nil => simp [DataW.TrodVars] at h
  | cons g2 gs =>
  obtain ⟨_, _, _, _, _, _, _, _, _, _, h, _⟩ := h
  cases gs with
  | nil => simp [DataW.TrodVars] at h
  | cons g3 gs =>
  obtain ⟨_, _, _, _, _, _, _, _, _, _, h, _⟩ := h
  obtain ⟨rfl, _⟩ := trodVars_none h
  exact ⟨g0, g1, g2, g3, rfl⟩

theorem own : ownKnob Tryd.prog.godebug = none := by kernel_rfl

/-! ### STEP 1: THE WALK: the Go text returns true. 'Grown w w'': the world has at most new blocks (Derived/RowKit3.lean). Part the cases AHEAD of 'go_enter' where a test parts the walk; take each callee by a contract of your own. -/
set_option maxHeartbeats 2000000 in
theorem walk (a0 : ByteArray) (w0 : a0.size ≤ maxLen) (w : World) (hL : laidMetH Tryd.prog laidL w) :
    Calls Tryd.prog 7 #[.string a0] w fun e w' => e = .returned (.bool true) ∧ Below w.heap.size w w' := by
  have hT : GTabs w := gtabsH hL
  clear hL
  by_cases hbig : (1048576 : Int) < (a0.size : Int)
  · clear hT w0
    go_enter Tryd.func7, Tryd.ntmps7
    go_wp2_with fail
    go_ret
    exact ⟨rfl, Below.refl _ _⟩
  · obtain ⟨d, l, f, s, ok, hP, ci⟩ := parseGroup_impl a0 (by omega)
    have cs := fun W => specGParse_same a0 (by omega) hP W
    have ci' := fun W (hb : Below w.heap.size w W) => ci W (hT.below hb)
    clear w0 hT ci hP
    have HQ := Lib.hid (fun W => eqGroup_same d l f s W)
    have HS := Lib.hid cs
    have HI := Lib.hid ci'
    clear cs ci'
    cases ok
    all_goals
      go_enter Tryd.func7, Tryd.ntmps7
      go_wp2_with fail
      refine (HS.out _).mono ?_
      rintro e W1 ⟨rfl, b1⟩
      have Y1 := Lib.hid (Box.new W1 [.int .i64 d, .int .i64 l, .int .i64 f, .int .i64 s] 25)
      have D2 := Lib.hid (b1.alloc b1.size (.cells #[.int .i64 d, .int .i64 l, .int .i64 f, .int .i64 s] 25 (0, 0)))
      clear b1
      go_wp2_with fail
      refine (HI.out _ D2.out).mono ?_
      rintro e W2 ⟨rfl, b2⟩
      have Y3 := Y1.out.below b2
      have y0 := Y3.2 0 _ rfl
      have y1 := Y3.2 1 _ rfl
      have y2 := Y3.2 2 _ rfl
      have y3 := Y3.2 3 _ rfl
      have hy := Y3.1
      have D4 := Lib.hid ((D2.out.trans (b2.mono D2.out.size)).alloc (by have := (D2.out.trans (b2.mono D2.out.size)).size; omega) (.cells #[.int .i64 d, .int .i64 l, .int .i64 f, .int .i64 s] 25 (0, 0)))
      clear b2 D2 Y1 Y3
      go_wp2_with fail
      refine (HQ.out _).mono ?_
      rintro e W3 ⟨rfl, b3⟩
      go_wp2_with fail
      go_ret
      exact ⟨rfl, D4.out.trans (b3.mono D4.out.size)⟩

/-! ### THE ROW's STEP: WRITTEN OUT: LEAVE IT -/
set_option maxRecDepth 100000 in
theorem lifted (os : Os) (started : os.Started) (H : Type) (enc : TypeId × Value → H) :
    ReturnsInHanded {} Tryd.checked os 7 .any (fun w args => (Rows.fnExactParseGroupSpec.pre enc Tryd.prog Tryd.f7 Rows.fnExactParseGroupRow.domain false w args ∧ laidMetH Tryd.prog laidL w) ∧ sizedMet enc Tryd.prog Tryd.f7 (OpenSpec.ofChange Rows.fnExactParseGroupSpec) false w args)
      (Rows.fnExactParseGroupSpec.post enc Tryd.prog Tryd.f7 false true false false) := by
  refine returnsInHanded_of_change_and (C := Tryd.checked) (X := fun w _ => laidMetH Tryd.prog laidL w) (fun _ _ _ hh h => h.of_heap hh) own started (by kernel_rfl) Tryd.func7
    (ChangeSpec.witness_shaped (enc := enc) (C := Tryd.checked) (os := os) (X := fun w _ => laidMetH Tryd.prog laidL w) false (World.doorLaid Tryd.prog 400 os) #[.string ByteArray.empty] 8 rfl (World.shaped_of_RefB (by kernel_rfl) (by kernel_rfl)) (by kernel_rfl) (by kernel_rfl) (by kernel_rfl) (door_met os _)) ?_
  intro W base args ds gs before hval0 hW _ hsz0 hL _
  have hval : ∀ (j : Nat) t v, Tryd.f7.params[j]? = some t → args[j]? = some v → Value.okWide Tryd.prog W .any base t v := hval0
  have hW' := hW
  obtain ⟨p, q, hA0, hV, rfl, hfz, hnd⟩ := hW
  have hA : DataW.TrodAll enc Tryd.prog W 0 (fun _ => true) true Tryd.f7.params.toList args.toList ds p := hA0
  rw [Tryd.params7] at hA hval
  obtain ⟨v0, vs0, d0, ds0, p0, q0, hargs, rfl, rfl, h0, r0⟩ := trodAll_cons hA
  obtain ⟨rfl, rfl, rfl⟩ := trodAll_nil r0
  obtain rfl : args = #[v0] := by cases args; simp_all
  obtain ⟨gv0, gv1, gv2, gv3, hgs⟩ := readings hV
  subst hgs
  obtain ⟨a0, rfl, rfl, rfl, w0⟩ := open_string Tryd.underlying9 (hval 0 9 v0 rfl rfl) h0
  clear hA0 hval0
  refine (walk a0 w0 W hL).mono fun e W' ⟨he, bel⟩ => ?_
  subst he
  exact ⟨_, rfl, _, _, _, [], [], q, hW', (trodAll_cons_mk (shut_bool Tryd.underlying4 _) trodAll_mk0), (trodAll_cons_mk (shut_string Tryd.underlying9 w0) trodAll_mk0), Below.trodVars (by kernel_rfl) bel (by kernel_rfl) hV, bel.frame _, fun h => by cases h⟩

theorem over : Rows.fnExactParseGroupRow.holds Tryd.pinned (OpenSpec.ofChange Rows.fnExactParseGroupSpec) :=
  OpenClaim.holds_of_wide 7 Tryd.f7 rfl rfl rfl rfl rfl rfl rfl ⟨rfl, rfl, rfl, rfl, rfl⟩ rfl rfl rfl rfl rfl (by kernel_rfl) Tryd.func7 (by kernel_rfl)
    (of_decide_eq_true (by kernel_rfl)) (by unfold Func.isWrapper; first | (rw [if_pos (by decide +kernel)]; kernel_rfl) | (rw [if_neg (by decide +kernel)]; exact ⟨rfl, rfl⟩))
    (fun os started H enc _ => lifted os started H enc)

/-- The row's statement. -/
theorem proved : Rows.FnExactParseGroupSaid :=
  over

/-- THE TIED CARD: the listed variables are those that the program's own text lays. -/
theorem card : Rows.FnExactParseGroupCardSaid :=
  Claim7.holds_tied_plain_at .later [] [.data, .widerDeep, .widerDeep, .widerDeep] true (true, "5345184ecfd63a51511ccb799623285e2c420bb998cecc5c2c6c155aed650024") false
    proved (fun _ h => by cases h) (by kernel_rfl) (fun _ h => by cases h) fnExactParseGroup_row_tie rfl ⟨rfl, rfl⟩ (by kernel_rfl) rfl
    (fun f fn hf hfn => by
      obtain rfl : f = 7 := Option.some.inj ((show Tryd.prog.funcNamed "loop.example/g00884/laws.FnExactParseGroup" = some 7 by kernel_rfl).symm.trans hf) |>.symm
      obtain rfl : fn = Tryd.f7 := (Option.some.inj (Tryd.func7.symm.trans hfn)).symm
      exact ⟨by kernel_rfl, fun j t ht => by
        rw [Tryd.params7] at ht
        have hm : t ∈ [9] := by
          have := Array.mem_of_getElem? ht
          simpa using this
        have hall : ([9].all fun u => !Tryd.prog.wantsStandIn u) = true := by kernel_rfl
        exact (show Tryd.prog.wantsStandIn t = false by simpa using List.all_eq_true.1 hall t hm)⟩)
    (by kernel_rfl)
#print axioms card
end Go.Proofs.YtklfkdmmclomoaaDoor.fnExactParseGroup
