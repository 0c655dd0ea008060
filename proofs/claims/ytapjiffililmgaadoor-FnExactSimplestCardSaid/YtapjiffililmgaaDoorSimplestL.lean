/- FnExactSimplest: at every slice of arms the law returns true: Simplest of the program answers as its model does, and leaves the slice as it is. The card ties the table of attitudes to the program's text. No condition. -/
import Derived.Test.YtapjiffililmgaaDoorRows
import Derived.Test.YtapjiffililmgaaDoorCards
import Derived.Test.YtapjiffililmgaaDoorTie
import Derived.WalkKit
import Derived.ProofKit
import Derived.OpenShut
import Derived.ShutString
import Derived.Test.YtapjiffililmgaaDoorRSimp2
import Derived.Test.YtapjiffililmgaaDoorArmsX
import Derived.Test.YtapjiffililmgaaDoorArmRow2
import Derived.LaidMore
import Derived.Stop.Joined
import Derived.SevenTiedAt
import Derived.OpenVars
import Derived.ChangeVars
import Derived.ChangeOld
import Derived.Below
namespace Go.Proofs.YtapjiffililmgaaDoor.fnExactSimplest
open Go.ChangeShapes Go.WideShapes Go.ChangeAt Go.RowKit
open Go.ChangeMaps (open_string shut_string)
set_option linter.unusedVariables false

def laidL : List (String × DataW Unit) := [("loop.example/g00884/impl.attitudeWords", Rows.laid_loop_example_g00884_impl_attitudeWords)]

/-- The door's own heap meets the condition. -/
theorem door_met (os : Os) (args : Array Value) : laidMetH Tryd.prog laidL ((World.doorLaid Tryd.prog 400 os).forCall (fun _ _ => 0) ⟨#[], args, []⟩).memory :=
  laidMetH_of_parts3 (fuel := 8) (laidMet_of_run' 8 (by kernel_rfl) (by kernel_rfl)) (by kernel_rfl) (by kernel_rfl)

theorem own : ownKnob Tryd.prog.godebug = none := by kernel_rfl
theorem laidOut : laidOutB Tryd.prog = true := by kernel_rfl

/-- WHAT THE WALK IS TOLD OF A SLICE OF INTEGERS THAT CAME IN: it is nil; or it leads to a row of 'cap' cells, the numbers 'zs' (the first 'len' are its elements, the rest its spare room), each fitting its kind. -/
def IsRow (k : IntKind) (w : World) (a : Option Addr) (len cap : Nat) (zs : List Int) : Prop :=
  (a = none ∧ len = 0 ∧ cap = 0 ∧ zs = []) ∨
  ∃ x, a = some x ∧ len ≤ cap ∧ cap ≤ maxLen ∧ zs.length = cap ∧ (∀ i, i < zs.length → w.cell? (x.add i) = some (.int k (zs.getD i 0))) ∧ ∀ n ∈ zs, (Lit.int k n).wf = true

/-! ### STEP 1: THE WALK: the Go text returns true, AND WRITES NOTHING THAT WAS THERE: 'Below w.heap.size w w'' (Derived/Below.lean: '.refl', '.alloc', '.drew', '.setCell' at a new block, '.trans'). Open each 'IsRow' by 'rcases' AHEAD of 'go_enter'; part every test ahead of the walk. -/
set_option maxHeartbeats 4000000 in
theorem walk (a0 : Option Addr) (len0 cap0 : Nat) (z0 : List Arm) (w : World) (w0 : IsArms w a0 len0 cap0 z0) (hL : laidMetH Tryd.prog laidL w) :
    Calls Tryd.prog 13 #[.slice a0 len0 cap0] w fun e w' => e = .returned (.bool true) ∧ Below w.heap.size w w' := by
  have hA : AttsLie w := attsH hL
  obtain ⟨hR, hm⟩ := w0
  by_cases hn : len0 ≤ 1048576
  · have cz := fun W => szArms_any len0 a0 cap0 W hn
    have e1 : decide (1048576 - (len0 : Int) < 0) = false := by simp; omega
    have CT := Lib.hid (fun W (h : RdA W a0 len0 z0) => toArmsS_any z0 len0 a0 cap0 W h hn)
    have cs := fun (g : Nat) W (h : RdA W (some ⟨g, 0, none⟩) len0 z0) => simplest_spec z0 len0 (some ⟨g, 0, none⟩) len0 W h
    have ci := fun (g : Nat) W (h : RdA W (some ⟨g, 0, none⟩) len0 z0) (hb : Below w.heap.size w W) => simplest_impl z0 len0 (some ⟨g, 0, none⟩) len0 W h hm (hA.below hb)
    generalize simpI z0 = si at *
    generalize simpB z0 = sb at *
    have es : (si != si) = false := by simp
    have eb : (sb != sb) = false := by cases sb <;> rfl
    have CS := Lib.hid cs
    have CI := Lib.hid ci
    have CQ := Lib.hid (fun (g g' : Nat) W (h : RdA W (some ⟨g, 0, none⟩) len0 z0) (h' : RdA W (some ⟨g', 0, none⟩) len0 z0) => eqArmsS_true z0 len0 (some ⟨g, 0, none⟩) (some ⟨g', 0, none⟩) len0 len0 W h h' (by omega))
    have HR := Lib.hid hR
    clear cs ci hA hL hR
    go_enter Tryd.func13, Tryd.ntmps13
    go_wp2_with fail
    refine (cz _).mono ?_
    rintro e w' ⟨rfl, rfl⟩
    clear cz
    go_wp2_with fail
    refine (CT.out _ HR.out).mono ?_
    rintro e w1 ⟨g1, rfl, _, r1, b1⟩
    have R1 := Lib.hid r1
    have B1 := Lib.hid b1
    clear r1 b1
    go_wp2_with fail
    refine (CS.out g1 _ R1.out).mono ?_
    rintro e w2 ⟨rfl, b2⟩
    have B2 := Lib.hid (B1.out.trans (b2.mono B1.out.size))
    clear b2 R1 B1
    go_wp2_with fail
    refine (CT.out _ (HR.out.below B2.out)).mono ?_
    rintro e w3 ⟨g3, rfl, _, r3, b3⟩
    have R3 := Lib.hid r3
    have B3 := Lib.hid (B2.out.trans (b3.mono B2.out.size))
    clear r3 b3 B2
    go_wp2_with fail
    refine (CI.out g3 _ R3.out B3.out).mono ?_
    rintro e w4 ⟨rfl, b4⟩
    have R4 := Lib.hid (R3.out.below b4)
    have B4 := Lib.hid (B3.out.trans (b4.mono B3.out.size))
    clear b4 R3 B3
    go_wp2_with fail
    refine (CT.out _ (HR.out.below B4.out)).mono ?_
    rintro e w5 ⟨g5, rfl, _, r5, b5⟩
    have R5 := Lib.hid r5
    have R6 := Lib.hid (R4.out.below b5)
    have B5 := Lib.hid (B4.out.trans (b5.mono B4.out.size))
    clear r5 b5 R4 B4
    go_wp2_with fail
    refine (CQ.out g3 g5 _ R6.out R5.out).mono ?_
    rintro e w6 ⟨rfl, b6⟩
    have B6 := Lib.hid (B5.out.trans (b6.mono B5.out.size))
    clear b6 B5
    go_wp2_with fail
    go_ret
    exact ⟨rfl, B6.out⟩
  · have cz := fun W => szArms_big len0 a0 cap0 W (by omega) hm
    clear hA hL hR
    go_enter Tryd.func13, Tryd.ntmps13
    go_wp2_with fail
    refine (cz _).mono ?_
    rintro e w' ⟨rfl, rfl⟩
    clear cz
    go_wp2_with fail
    go_ret
    exact ⟨rfl, Below.refl _ _⟩

/-! ### THE ROW's STEP: WRITTEN OUT: LEAVE IT -/
set_option maxRecDepth 100000 in
theorem lifted (os : Os) (started : os.Started) (H : Type) (enc : TypeId × Value → H) :
    ReturnsInHanded {} Tryd.checked os 13 .any (fun w args => (Rows.fnExactSimplestSpec.pre enc Tryd.prog Tryd.f13 Rows.fnExactSimplestRow.domain false w args ∧ laidMetH Tryd.prog laidL w) ∧ sizedMet enc Tryd.prog Tryd.f13 (OpenSpec.ofChange Rows.fnExactSimplestSpec) false w args)
      (Rows.fnExactSimplestSpec.post enc Tryd.prog Tryd.f13 false true false false) := by
  refine returnsInHanded_of_change_and (C := Tryd.checked) (X := fun w _ => laidMetH Tryd.prog laidL w) (fun _ _ _ hh h => h.of_heap hh) own started (by kernel_rfl) Tryd.func13
    (ChangeSpec.witness_shaped (enc := enc) (C := Tryd.checked) (os := os) (X := fun w _ => laidMetH Tryd.prog laidL w) false (World.doorLaid Tryd.prog 400 os) #[.slice none 0 0] 8 rfl (World.shaped_of_RefB (by kernel_rfl) (by kernel_rfl)) (by kernel_rfl) (by kernel_rfl) (by kernel_rfl) (door_met os _)) ?_
  intro W base args ds gs before hval0 hW _ hsz0 hL _
  have hval : ∀ (j : Nat) t v, Tryd.f13.params[j]? = some t → args[j]? = some v → Value.okWide Tryd.prog W .any base t v := hval0
  have hW' := hW
  obtain ⟨p, q, hA0, hV, rfl, hfz, hnd⟩ := hW
  have hA : DataW.TrodAll enc Tryd.prog W 0 (fun _ => true) true Tryd.f13.params.toList args.toList ds p := hA0
  rw [Tryd.params13] at hA hval
  obtain ⟨v0, vs0, d0, ds0, p0, q0, hargs, rfl, rfl, h0, r0⟩ := trodAll_cons hA
  obtain ⟨rfl, rfl, rfl⟩ := trodAll_nil r0
  obtain rfl : args = #[v0] := by cases args; simp_all
  obtain ⟨gv, tv, csv, fuelv, dv, pv, hgs, _⟩ := trodVars_one hV
  subst hgs
  obtain ⟨a0, len0, cap0, rfl⟩ := okWide_slice Tryd.underlying67 (hval 0 67 v0 rfl rfl)
  have k0 := h0
  have lt0 : ∀ x ∈ p0, x.block < W.heap.size := by obtain ⟨m, hm⟩ := k0; exact DataW.trod_lt m _ _ _ hm
  obtain ⟨z0, w0⟩ : ∃ zs, IsArms W a0 len0 cap0 zs := open_arms Tryd.underlying67 (by kernel_rfl) (by kernel_rfl) h0
  clear hA0 hval0
  refine (walk a0 len0 cap0 z0 W w0 hL).mono fun e W' ⟨he, bel⟩ => ?_
  subst he
  exact ⟨_, rfl, _, _, _, [], _, q, hW', trodAll_mk1 (shut_bool Tryd.underlying4 _), (trodAll_cons_mk (Below.trod laidOut (by kernel_rfl) (of_decide_eq_true (by kernel_rfl)) k0 bel lt0) trodAll_mk0), Below.trodVars (by kernel_rfl) bel (by kernel_rfl) hV, bel.frame _, fun h => by cases h⟩

theorem over : Rows.fnExactSimplestRow.holds Tryd.pinned (OpenSpec.ofChange Rows.fnExactSimplestSpec) :=
  OpenClaim.holds_of_wide 13 Tryd.f13 rfl rfl rfl rfl rfl rfl rfl ⟨rfl, rfl, rfl, rfl, rfl⟩ rfl rfl rfl rfl rfl (by kernel_rfl) Tryd.func13 (by kernel_rfl)
    (of_decide_eq_true (by kernel_rfl)) (by unfold Func.isWrapper; first | (rw [if_pos (by decide +kernel)]; kernel_rfl) | (rw [if_neg (by decide +kernel)]; exact ⟨rfl, rfl⟩))
    (fun os started H enc _ => lifted os started H enc)

/-- The row's statement. -/
theorem proved : Rows.FnExactSimplestSaid :=
  over

/-- THE TIED CARD: the listed variables are those that the program's own text lays. -/
theorem card : Rows.FnExactSimplestCardSaid :=
  Claim7.holds_tied_plain_at .later [] [.widerDeep] true (true, "d1e5bf1e1e7a9597079e242572c71b978cc10d1859386c6c3f3b043764f7ec81") false
    proved (fun _ h => by cases h) (by kernel_rfl) (fun _ h => by cases h) fnExactSimplest_row_tie rfl ⟨rfl, rfl⟩ (by kernel_rfl) rfl
    (fun f fn hf hfn => by
      obtain rfl : f = 13 := Option.some.inj ((show Tryd.prog.funcNamed "loop.example/g00884/laws.FnExactSimplest" = some 13 by kernel_rfl).symm.trans hf) |>.symm
      obtain rfl : fn = Tryd.f13 := (Option.some.inj (Tryd.func13.symm.trans hfn)).symm
      exact ⟨by kernel_rfl, fun j t ht => by
        rw [Tryd.params13] at ht
        have hm : t ∈ [67] := by
          have := Array.mem_of_getElem? ht
          first | simpa using this | (simp at this ⊢; omega) | (simp at this ⊢; rcases this with h | h <;> simp [h])
        have hall : ([67].all fun u => !Tryd.prog.wantsStandIn u) = true := by kernel_rfl
        exact (show Tryd.prog.wantsStandIn t = false by simpa using List.all_eq_true.1 hall t hm)⟩)
    (by kernel_rfl)
#print axioms card
end Go.Proofs.YtapjiffililmgaaDoor.fnExactSimplest
