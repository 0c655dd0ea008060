/- FnExactJoinGroups: at every two groups the law returns true: JoinGroups of the program answers as its model does. The card ties the table of attitudes to the program's text. No condition. -/
import Derived.Test.YtklfkdmmclomoaaDoorRows
import Derived.Test.YtklfkdmmclomoaaDoorCards
import Derived.Test.YtklfkdmmclomoaaDoorTie
import Derived.WalkKit
import Derived.ProofKit
import Derived.OpenShut
import Derived.ShutString
import Derived.Test.YtklfkdmmclomoaaDoorRGroups3
import Derived.Test.YtklfkdmmclomoaaDoorGJoin
import Derived.Deep.RegionHeld3
import Derived.Deep.DeepCutAuto
import Derived.LaidMore
import Derived.Stop.Joined
import Derived.SevenTiedAt
import Derived.OpenVars
import Derived.ChangeVars
import Derived.Below
import Derived.Test.YtklfkdmmclomoaaDoorFlat
namespace Go.Proofs.YtklfkdmmclomoaaDoor.fnExactJoinGroups
open Go.ChangeShapes Go.WideShapes Go.ChangeAt Go.RowKit
open Go.ChangeMaps (open_string shut_string)
set_option linter.unusedVariables false      -- a walk need not use every 'w<i>' (that an integer argument fits its kind)

theorem cells4 {zs : List Int} (h : zs.length = 4) : ∃ x0 x1 x2 x3 : Int, zs = [x0, x1, x2, x3] := by
  match zs, h with
  | [x0, x1, x2, x3], _ => exact ⟨x0, x1, x2, x3, rfl⟩

def laidL : List (String × DataW Unit) := [("loop.example/g00884/impl.attitudeWords", Rows.laid_loop_example_g00884_impl_attitudeWords)]

/-- The door's own heap meets the condition. -/
theorem door_met (os : Os) (args : Array Value) : laidMetH Tryd.prog laidL ((World.doorLaid Tryd.prog 400 os).forCall (fun _ _ => 0) ⟨#[], args, []⟩).memory :=
  laidMetH_of_parts3 (fuel := 8) (laidMet_of_run' 8 (by kernel_rfl) (by kernel_rfl)) (by kernel_rfl) (by kernel_rfl)

theorem own : ownKnob Tryd.prog.godebug = none := by kernel_rfl

/-! ### STEP 1: THE WALK: the Go text returns true. 'Grown w w'': the world has at most new blocks (Derived/RowKit3.lean). Part the cases AHEAD of 'go_enter' where a test parts the walk; take each callee by a contract of your own. -/
set_option maxHeartbeats 8000000 in
theorem walk (a0_0 a0_1 a0_2 a0_3 : Int) (a1_0 a1_1 a1_2 a1_3 : Int) (w0 : ∀ z ∈ [a0_0, a0_1, a0_2, a0_3], (Lit.int .i64 z).wf = true) (w1 : ∀ z ∈ [a1_0, a1_1, a1_2, a1_3], (Lit.int .i64 z).wf = true) (w : World) (hL : laidMetH Tryd.prog laidL w) :
    Calls Tryd.prog 11 #[.agg #[.int .i64 a0_0, .int .i64 a0_1, .int .i64 a0_2, .int .i64 a0_3], .agg #[.int .i64 a1_0, .int .i64 a1_1, .int .i64 a1_2, .int .i64 a1_3]] w fun e w' => e = .returned (.bool true) ∧ Below w.heap.size w w' := by
  have hA : AttsLie w := attsH hL
  obtain ⟨c, k, a, t, ok, cs, ci⟩ : ∃ (c k a t : Int) (ok : Bool), (∀ W, Calls Tryd.prog 24 #[.agg #[.int .i64 a0_0, .int .i64 a0_1, .int .i64 a0_2, .int .i64 a0_3], .agg #[.int .i64 a1_0, .int .i64 a1_1, .int .i64 a1_2, .int .i64 a1_3]] W fun e w' => e = .returned (.tuple #[.agg #[.int .i64 c, .int .i64 k, .int .i64 a, .int .i64 t], .bool ok]) ∧ Below W.heap.size W w') ∧ (∀ W, Below w.heap.size w W → Calls Tryd.prog 23 #[.agg #[.int .i64 a0_0, .int .i64 a0_1, .int .i64 a0_2, .int .i64 a0_3], .agg #[.int .i64 a1_0, .int .i64 a1_1, .int .i64 a1_2, .int .i64 a1_3]] W fun e w' => e = .returned (.tuple #[.agg #[.int .i64 c, .int .i64 k, .int .i64 a, .int .i64 t], .bool ok]) ∧ Below W.heap.size W w') := by
    obtain ⟨r, hr⟩ : ∃ r, gJoinB a0_0 a0_1 a0_2 a0_3 a1_0 a1_1 a1_2 a1_3 = r := ⟨_, rfl⟩
    have h1 := fun W => join_spec _ _ _ _ _ _ _ _ W r hr
    have h2 := fun W (hb : Below w.heap.size w W) => join_impl _ _ _ _ _ _ _ _ W r hr (hA.below hb)
    cases r
    · exact ⟨0, 0, 0, 0, false, fun W => h1 W, fun W hb => h2 W hb⟩
    · exact ⟨a0_0 + a1_0, a0_1, a0_2, a0_3, true, fun W => h1 W, fun W hb => h2 W hb⟩
  clear w0 w1 hA hL
  have ca := fun W => toGroup_any a0_0 a0_1 a0_2 a0_3 W
  have cb := fun W => toGroup_any a1_0 a1_1 a1_2 a1_3 W
  have CA := Lib.hid (fun (o : Option (Nat × List Value × TypeId)) (N : Nat) W (h : (W.cell? ⟨w.heap.size, 0, none⟩ = some (.int .i64 a0_0) ∧ W.cell? ⟨w.heap.size, 1, none⟩ = some (.int .i64 a0_1) ∧ W.cell? ⟨w.heap.size, 2, none⟩ = some (.int .i64 a0_2) ∧ W.cell? ⟨w.heap.size, 3, none⟩ = some (.int .i64 a0_3) ∧ W.cell? ⟨w.heap.size + 1, 0, none⟩ = some (.int .i64 a1_0) ∧ W.cell? ⟨w.heap.size + 1, 1, none⟩ = some (.int .i64 a1_1) ∧ W.cell? ⟨w.heap.size + 1, 2, none⟩ = some (.int .i64 a1_2) ∧ W.cell? ⟨w.heap.size + 1, 3, none⟩ = some (.int .i64 a1_3) ∧ JK w [.int .i64 a0_0, .int .i64 a0_1, .int .i64 a0_2, .int .i64 a0_3] [.int .i64 a1_0, .int .i64 a1_1, .int .i64 a1_2, .int .i64 a1_3] o N W)) => (ca W).mono (fun e w' (hh : e = Ending.returned (.agg #[.int .i64 a0_0, .int .i64 a0_1, .int .i64 a0_2, .int .i64 a0_3]) ∧ Below W.heap.size W w') => (⟨hh.1, js_below h hh.2, hh.2⟩ : e = Ending.returned (.agg #[.int .i64 a0_0, .int .i64 a0_1, .int .i64 a0_2, .int .i64 a0_3]) ∧ (w'.cell? ⟨w.heap.size, 0, none⟩ = some (.int .i64 a0_0) ∧ w'.cell? ⟨w.heap.size, 1, none⟩ = some (.int .i64 a0_1) ∧ w'.cell? ⟨w.heap.size, 2, none⟩ = some (.int .i64 a0_2) ∧ w'.cell? ⟨w.heap.size, 3, none⟩ = some (.int .i64 a0_3) ∧ w'.cell? ⟨w.heap.size + 1, 0, none⟩ = some (.int .i64 a1_0) ∧ w'.cell? ⟨w.heap.size + 1, 1, none⟩ = some (.int .i64 a1_1) ∧ w'.cell? ⟨w.heap.size + 1, 2, none⟩ = some (.int .i64 a1_2) ∧ w'.cell? ⟨w.heap.size + 1, 3, none⟩ = some (.int .i64 a1_3) ∧ JK w [.int .i64 a0_0, .int .i64 a0_1, .int .i64 a0_2, .int .i64 a0_3] [.int .i64 a1_0, .int .i64 a1_1, .int .i64 a1_2, .int .i64 a1_3] o N w') ∧ Below W.heap.size W w')))
  have CB := Lib.hid (fun (o : Option (Nat × List Value × TypeId)) (N : Nat) W (h : (W.cell? ⟨w.heap.size, 0, none⟩ = some (.int .i64 a0_0) ∧ W.cell? ⟨w.heap.size, 1, none⟩ = some (.int .i64 a0_1) ∧ W.cell? ⟨w.heap.size, 2, none⟩ = some (.int .i64 a0_2) ∧ W.cell? ⟨w.heap.size, 3, none⟩ = some (.int .i64 a0_3) ∧ W.cell? ⟨w.heap.size + 1, 0, none⟩ = some (.int .i64 a1_0) ∧ W.cell? ⟨w.heap.size + 1, 1, none⟩ = some (.int .i64 a1_1) ∧ W.cell? ⟨w.heap.size + 1, 2, none⟩ = some (.int .i64 a1_2) ∧ W.cell? ⟨w.heap.size + 1, 3, none⟩ = some (.int .i64 a1_3) ∧ JK w [.int .i64 a0_0, .int .i64 a0_1, .int .i64 a0_2, .int .i64 a0_3] [.int .i64 a1_0, .int .i64 a1_1, .int .i64 a1_2, .int .i64 a1_3] o N W)) => (cb W).mono (fun e w' (hh : e = Ending.returned (.agg #[.int .i64 a1_0, .int .i64 a1_1, .int .i64 a1_2, .int .i64 a1_3]) ∧ Below W.heap.size W w') => (⟨hh.1, js_below h hh.2, hh.2⟩ : e = Ending.returned (.agg #[.int .i64 a1_0, .int .i64 a1_1, .int .i64 a1_2, .int .i64 a1_3]) ∧ (w'.cell? ⟨w.heap.size, 0, none⟩ = some (.int .i64 a0_0) ∧ w'.cell? ⟨w.heap.size, 1, none⟩ = some (.int .i64 a0_1) ∧ w'.cell? ⟨w.heap.size, 2, none⟩ = some (.int .i64 a0_2) ∧ w'.cell? ⟨w.heap.size, 3, none⟩ = some (.int .i64 a0_3) ∧ w'.cell? ⟨w.heap.size + 1, 0, none⟩ = some (.int .i64 a1_0) ∧ w'.cell? ⟨w.heap.size + 1, 1, none⟩ = some (.int .i64 a1_1) ∧ w'.cell? ⟨w.heap.size + 1, 2, none⟩ = some (.int .i64 a1_2) ∧ w'.cell? ⟨w.heap.size + 1, 3, none⟩ = some (.int .i64 a1_3) ∧ JK w [.int .i64 a0_0, .int .i64 a0_1, .int .i64 a0_2, .int .i64 a0_3] [.int .i64 a1_0, .int .i64 a1_1, .int .i64 a1_2, .int .i64 a1_3] o N w') ∧ Below W.heap.size W w')))
  have CS := Lib.hid (fun (o : Option (Nat × List Value × TypeId)) (N : Nat) W (h : (W.cell? ⟨w.heap.size, 0, none⟩ = some (.int .i64 a0_0) ∧ W.cell? ⟨w.heap.size, 1, none⟩ = some (.int .i64 a0_1) ∧ W.cell? ⟨w.heap.size, 2, none⟩ = some (.int .i64 a0_2) ∧ W.cell? ⟨w.heap.size, 3, none⟩ = some (.int .i64 a0_3) ∧ W.cell? ⟨w.heap.size + 1, 0, none⟩ = some (.int .i64 a1_0) ∧ W.cell? ⟨w.heap.size + 1, 1, none⟩ = some (.int .i64 a1_1) ∧ W.cell? ⟨w.heap.size + 1, 2, none⟩ = some (.int .i64 a1_2) ∧ W.cell? ⟨w.heap.size + 1, 3, none⟩ = some (.int .i64 a1_3) ∧ JK w [.int .i64 a0_0, .int .i64 a0_1, .int .i64 a0_2, .int .i64 a0_3] [.int .i64 a1_0, .int .i64 a1_1, .int .i64 a1_2, .int .i64 a1_3] o N W)) => (cs W).mono (fun e w' (hh : e = Ending.returned (.tuple #[.agg #[.int .i64 c, .int .i64 k, .int .i64 a, .int .i64 t], .bool ok]) ∧ Below W.heap.size W w') => (⟨hh.1, js_below h hh.2, hh.2⟩ : e = Ending.returned (.tuple #[.agg #[.int .i64 c, .int .i64 k, .int .i64 a, .int .i64 t], .bool ok]) ∧ (w'.cell? ⟨w.heap.size, 0, none⟩ = some (.int .i64 a0_0) ∧ w'.cell? ⟨w.heap.size, 1, none⟩ = some (.int .i64 a0_1) ∧ w'.cell? ⟨w.heap.size, 2, none⟩ = some (.int .i64 a0_2) ∧ w'.cell? ⟨w.heap.size, 3, none⟩ = some (.int .i64 a0_3) ∧ w'.cell? ⟨w.heap.size + 1, 0, none⟩ = some (.int .i64 a1_0) ∧ w'.cell? ⟨w.heap.size + 1, 1, none⟩ = some (.int .i64 a1_1) ∧ w'.cell? ⟨w.heap.size + 1, 2, none⟩ = some (.int .i64 a1_2) ∧ w'.cell? ⟨w.heap.size + 1, 3, none⟩ = some (.int .i64 a1_3) ∧ JK w [.int .i64 a0_0, .int .i64 a0_1, .int .i64 a0_2, .int .i64 a0_3] [.int .i64 a1_0, .int .i64 a1_1, .int .i64 a1_2, .int .i64 a1_3] o N w') ∧ Below W.heap.size W w')))
  have CI := Lib.hid (fun (o : Option (Nat × List Value × TypeId)) (N : Nat) W (h : (W.cell? ⟨w.heap.size, 0, none⟩ = some (.int .i64 a0_0) ∧ W.cell? ⟨w.heap.size, 1, none⟩ = some (.int .i64 a0_1) ∧ W.cell? ⟨w.heap.size, 2, none⟩ = some (.int .i64 a0_2) ∧ W.cell? ⟨w.heap.size, 3, none⟩ = some (.int .i64 a0_3) ∧ W.cell? ⟨w.heap.size + 1, 0, none⟩ = some (.int .i64 a1_0) ∧ W.cell? ⟨w.heap.size + 1, 1, none⟩ = some (.int .i64 a1_1) ∧ W.cell? ⟨w.heap.size + 1, 2, none⟩ = some (.int .i64 a1_2) ∧ W.cell? ⟨w.heap.size + 1, 3, none⟩ = some (.int .i64 a1_3) ∧ JK w [.int .i64 a0_0, .int .i64 a0_1, .int .i64 a0_2, .int .i64 a0_3] [.int .i64 a1_0, .int .i64 a1_1, .int .i64 a1_2, .int .i64 a1_3] o N W)) => (ci W (js_jk h).2.2.1).mono (fun e w' (hh : e = Ending.returned (.tuple #[.agg #[.int .i64 c, .int .i64 k, .int .i64 a, .int .i64 t], .bool ok]) ∧ Below W.heap.size W w') => (⟨hh.1, js_below h hh.2, hh.2⟩ : e = Ending.returned (.tuple #[.agg #[.int .i64 c, .int .i64 k, .int .i64 a, .int .i64 t], .bool ok]) ∧ (w'.cell? ⟨w.heap.size, 0, none⟩ = some (.int .i64 a0_0) ∧ w'.cell? ⟨w.heap.size, 1, none⟩ = some (.int .i64 a0_1) ∧ w'.cell? ⟨w.heap.size, 2, none⟩ = some (.int .i64 a0_2) ∧ w'.cell? ⟨w.heap.size, 3, none⟩ = some (.int .i64 a0_3) ∧ w'.cell? ⟨w.heap.size + 1, 0, none⟩ = some (.int .i64 a1_0) ∧ w'.cell? ⟨w.heap.size + 1, 1, none⟩ = some (.int .i64 a1_1) ∧ w'.cell? ⟨w.heap.size + 1, 2, none⟩ = some (.int .i64 a1_2) ∧ w'.cell? ⟨w.heap.size + 1, 3, none⟩ = some (.int .i64 a1_3) ∧ JK w [.int .i64 a0_0, .int .i64 a0_1, .int .i64 a0_2, .int .i64 a0_3] [.int .i64 a1_0, .int .i64 a1_1, .int .i64 a1_2, .int .i64 a1_3] o N w') ∧ Below W.heap.size W w')))
  have HQ := Lib.hid (fun W => eqGroup_same c k a t W)
  have J0 := Lib.hid (show JK w [.int .i64 a0_0, .int .i64 a0_1, .int .i64 a0_2, .int .i64 a0_3] [.int .i64 a1_0, .int .i64 a1_1, .int .i64 a1_2, .int .i64 a1_3] none (w.heap.size + 2) ((w.alloc (.cells #[.int .i64 a0_0, .int .i64 a0_1, .int .i64 a0_2, .int .i64 a0_3] 41 (0, 0))).alloc (.cells #[.int .i64 a1_0, .int .i64 a1_1, .int .i64 a1_2, .int .i64 a1_3] 41 (0, 0))) from JK.start w [.int .i64 a0_0, .int .i64 a0_1, .int .i64 a0_2, .int .i64 a0_3] [.int .i64 a1_0, .int .i64 a1_1, .int .i64 a1_2, .int .i64 a1_3] 41)
  clear ca cb cs ci
  cases ok
  · go_enter Tryd.func11, Tryd.ntmps11
    go_upto_region 1 with fail
    go_cut [5, 6] (fun s5 s6 wx => ∃ g : Nat, s5 = .pointer (some ⟨g, 0, none⟩) ∧ s6 = .bool false ∧ BoxF wx g [.int .i64 c, .int .i64 k, .int .i64 a, .int .i64 t] 25 ∧ JK w [.int .i64 a0_0, .int .i64 a0_1, .int .i64 a0_2, .int .i64 a0_3] [.int .i64 a1_0, .int .i64 a1_1, .int .i64 a1_2, .int .i64 a1_3] none (w.heap.size + 2) wx)
    case first =>
      have hJ := J0.out
      generalize (w.alloc (.cells #[.int .i64 a0_0, .int .i64 a0_1, .int .i64 a0_2, .int .i64 a0_3] 41 (0, 0))).alloc (.cells #[.int .i64 a1_0, .int .i64 a1_1, .int .i64 a1_2, .int .i64 a1_3] 41 (0, 0)) = W0 at *
      obtain ⟨o, ho⟩ : ∃ o : Option (Nat × List Value × TypeId), o = none := ⟨_, rfl⟩
      obtain ⟨N, hN⟩ : ∃ N, N = w.heap.size + 2 := ⟨_, rfl⟩
      rw [← ho, ← hN] at hJ
      have H2 := Lib.hid hJ.two
      have HO := Lib.hid (And.intro ho hN)
      have hS00 := js_of hJ
      have hS0 := js_drew hS00
      clear hJ ho hN
      go_region_held3 (fun w' => (w'.cell? ⟨w.heap.size, 0, none⟩ = some (.int .i64 a0_0) ∧ w'.cell? ⟨w.heap.size, 1, none⟩ = some (.int .i64 a0_1) ∧ w'.cell? ⟨w.heap.size, 2, none⟩ = some (.int .i64 a0_2) ∧ w'.cell? ⟨w.heap.size, 3, none⟩ = some (.int .i64 a0_3) ∧ w'.cell? ⟨w.heap.size + 1, 0, none⟩ = some (.int .i64 a1_0) ∧ w'.cell? ⟨w.heap.size + 1, 1, none⟩ = some (.int .i64 a1_1) ∧ w'.cell? ⟨w.heap.size + 1, 2, none⟩ = some (.int .i64 a1_2) ∧ w'.cell? ⟨w.heap.size + 1, 3, none⟩ = some (.int .i64 a1_3) ∧ JK w [.int .i64 a0_0, .int .i64 a0_1, .int .i64 a0_2, .int .i64 a0_3] [.int .i64 a1_0, .int .i64 a1_1, .int .i64 a1_2, .int .i64 a1_3] o N w'))
        (first
          | with_reducible exact hS0
          | with_reducible assumption
          | (with_reducible refine js_alloc ?_; with_reducible assumption)
          | (with_reducible refine js_drew ?_; with_reducible refine js_alloc ?_; with_reducible exact hS00)
          | (with_reducible refine js_set4 ?_ ?_; (first | omega | (have := H2.out; omega) | (have := H2.out; simp; omega)); with_reducible assumption))
        (first
          | (go_at_call 28; (with_reducible refine (CA.out o N _ ?_).mono ?_); (with_reducible assumption); rintro e W3 ⟨rfl, hS3, hB3⟩; have hz3 := hB3.size; (try simp at hz3); (first | (have qb := BoxF.below (w := (W0.alloc (.cells #[.int .i64 0, .int .i64 0, .int .i64 0, .int .i64 0] 25 (0, 0))).drew) (BoxF.new W0 [.int .i64 0, .int .i64 0, .int .i64 0, .int .i64 0] 25) hB3; obtain ⟨i0, i1, i2, i3, iF⟩ := qb.four) | (have qb := BoxF.below (BoxF.new _ [.int .i64 0, .int .i64 0, .int .i64 0, .int .i64 0] 25) hB3; obtain ⟨i0, i1, i2, i3, iF⟩ := qb.four) | (have qc := BoxF.below qb hB3; clear qb i0 i1 i2 i3 iF; have qb := qc; clear qc; obtain ⟨i0, i1, i2, i3, iF⟩ := qb.four) | skip))
          | (go_at_call 28; (with_reducible refine (CB.out o N _ ?_).mono ?_); (with_reducible assumption); rintro e W4 ⟨rfl, hS4, hB4⟩; have hz4 := hB4.size; (try simp at hz4); (first | (have qb := BoxF.below (w := (W0.alloc (.cells #[.int .i64 0, .int .i64 0, .int .i64 0, .int .i64 0] 25 (0, 0))).drew) (BoxF.new W0 [.int .i64 0, .int .i64 0, .int .i64 0, .int .i64 0] 25) hB4; obtain ⟨i0, i1, i2, i3, iF⟩ := qb.four) | (have qb := BoxF.below (BoxF.new _ [.int .i64 0, .int .i64 0, .int .i64 0, .int .i64 0] 25) hB4; obtain ⟨i0, i1, i2, i3, iF⟩ := qb.four) | (have qc := BoxF.below qb hB4; clear qb i0 i1 i2 i3 iF; have qb := qc; clear qc; obtain ⟨i0, i1, i2, i3, iF⟩ := qb.four) | skip))
          | (go_at_call 24; (with_reducible refine (CS.out o N _ ?_).mono ?_); (with_reducible assumption); rintro e W5 ⟨rfl, hS5, hB5⟩; have hz5 := hB5.size; (try simp at hz5); (first | (have qb := BoxF.below (w := (W0.alloc (.cells #[.int .i64 0, .int .i64 0, .int .i64 0, .int .i64 0] 25 (0, 0))).drew) (BoxF.new W0 [.int .i64 0, .int .i64 0, .int .i64 0, .int .i64 0] 25) hB5; obtain ⟨i0, i1, i2, i3, iF⟩ := qb.four) | (have qb := BoxF.below (BoxF.new _ [.int .i64 0, .int .i64 0, .int .i64 0, .int .i64 0] 25) hB5; obtain ⟨i0, i1, i2, i3, iF⟩ := qb.four) | (have qc := BoxF.below qb hB5; clear qb i0 i1 i2 i3 iF; have qb := qc; clear qc; obtain ⟨i0, i1, i2, i3, iF⟩ := qb.four) | skip)))
      all_goals
        rename_i hh
        have hj := js_jk hh
        rw [HO.out.1, HO.out.2] at hj
        have HJ := Lib.hid hj
        clear hj hh
        go_wp2_with fail
        go_meet
        first
          | exact ⟨_, rfl, rfl, BoxF.new W5 [.int .i64 c, .int .i64 k, .int .i64 a, .int .i64 t] 25, HJ.out⟩
          | exact ⟨_, rfl, rfl, BoxF.all4 qb, HJ.out⟩
    case rest =>
      obtain ⟨g, rfl, rfl, hx, hJ1⟩ := hcut
      have hJ := Lib.hid (hJ1.next hx)
      clear hJ1 hx J0
      go_upto_region 2 with fail
      go_cut [7, 8] (fun s7 s8 wx => ∃ g2 : Nat, s7 = .pointer (some ⟨g2, 0, none⟩) ∧ s8 = .bool false ∧ BoxF wx g2 [.int .i64 c, .int .i64 k, .int .i64 a, .int .i64 t] 25 ∧ JK w [.int .i64 a0_0, .int .i64 a0_1, .int .i64 a0_2, .int .i64 a0_3] [.int .i64 a1_0, .int .i64 a1_1, .int .i64 a1_2, .int .i64 a1_3] (some (g, [.int .i64 c, .int .i64 k, .int .i64 a, .int .i64 t], 25)) wc.heap.size wx)
      case first =>
        have hJ1 := hJ.out
        obtain ⟨W0, hW⟩ : ∃ W0, W0 = wc := ⟨_, rfl⟩
        subst hW
        obtain ⟨o, ho⟩ : ∃ o : Option (Nat × List Value × TypeId), o = some (g, [.int .i64 c, .int .i64 k, .int .i64 a, .int .i64 t], 25) := ⟨_, rfl⟩
        obtain ⟨N, hN⟩ : ∃ N, N = W0.heap.size := ⟨_, rfl⟩
        rw [← ho, ← hN] at hJ1
        have H2 := Lib.hid hJ1.two
        have HO := Lib.hid (And.intro ho hN)
        have hS00 := js_of hJ1
        have hS0 := js_drew hS00
        clear hJ1 ho hN
        go_region_held3 (fun w' => (w'.cell? ⟨w.heap.size, 0, none⟩ = some (.int .i64 a0_0) ∧ w'.cell? ⟨w.heap.size, 1, none⟩ = some (.int .i64 a0_1) ∧ w'.cell? ⟨w.heap.size, 2, none⟩ = some (.int .i64 a0_2) ∧ w'.cell? ⟨w.heap.size, 3, none⟩ = some (.int .i64 a0_3) ∧ w'.cell? ⟨w.heap.size + 1, 0, none⟩ = some (.int .i64 a1_0) ∧ w'.cell? ⟨w.heap.size + 1, 1, none⟩ = some (.int .i64 a1_1) ∧ w'.cell? ⟨w.heap.size + 1, 2, none⟩ = some (.int .i64 a1_2) ∧ w'.cell? ⟨w.heap.size + 1, 3, none⟩ = some (.int .i64 a1_3) ∧ JK w [.int .i64 a0_0, .int .i64 a0_1, .int .i64 a0_2, .int .i64 a0_3] [.int .i64 a1_0, .int .i64 a1_1, .int .i64 a1_2, .int .i64 a1_3] o N w'))
          (first
            | with_reducible exact hS0
            | with_reducible assumption
            | (with_reducible refine js_alloc ?_; with_reducible assumption)
            | (with_reducible refine js_drew ?_; with_reducible refine js_alloc ?_; with_reducible exact hS00)
            | (with_reducible refine js_set4 ?_ ?_; (first | omega | (have := H2.out; omega) | (have := H2.out; simp; omega)); with_reducible assumption))
          (first
            | (go_at_call 28; (with_reducible refine (CA.out o N _ ?_).mono ?_); (with_reducible assumption); rintro e W3 ⟨rfl, hS3, hB3⟩; have hz3 := hB3.size; (try simp at hz3); (first | (have qb := BoxF.below (w := (W0.alloc (.cells #[.int .i64 0, .int .i64 0, .int .i64 0, .int .i64 0] 25 (0, 0))).drew) (BoxF.new W0 [.int .i64 0, .int .i64 0, .int .i64 0, .int .i64 0] 25) hB3; obtain ⟨i0, i1, i2, i3, iF⟩ := qb.four) | (have qb := BoxF.below (BoxF.new _ [.int .i64 0, .int .i64 0, .int .i64 0, .int .i64 0] 25) hB3; obtain ⟨i0, i1, i2, i3, iF⟩ := qb.four) | (have qc := BoxF.below qb hB3; clear qb i0 i1 i2 i3 iF; have qb := qc; clear qc; obtain ⟨i0, i1, i2, i3, iF⟩ := qb.four) | skip))
            | (go_at_call 28; (with_reducible refine (CB.out o N _ ?_).mono ?_); (with_reducible assumption); rintro e W4 ⟨rfl, hS4, hB4⟩; have hz4 := hB4.size; (try simp at hz4); (first | (have qb := BoxF.below (w := (W0.alloc (.cells #[.int .i64 0, .int .i64 0, .int .i64 0, .int .i64 0] 25 (0, 0))).drew) (BoxF.new W0 [.int .i64 0, .int .i64 0, .int .i64 0, .int .i64 0] 25) hB4; obtain ⟨i0, i1, i2, i3, iF⟩ := qb.four) | (have qb := BoxF.below (BoxF.new _ [.int .i64 0, .int .i64 0, .int .i64 0, .int .i64 0] 25) hB4; obtain ⟨i0, i1, i2, i3, iF⟩ := qb.four) | (have qc := BoxF.below qb hB4; clear qb i0 i1 i2 i3 iF; have qb := qc; clear qc; obtain ⟨i0, i1, i2, i3, iF⟩ := qb.four) | skip))
            | (go_at_call 23; (with_reducible refine (CI.out o N _ ?_).mono ?_); (with_reducible assumption); rintro e W5 ⟨rfl, hS5, hB5⟩; have hz5 := hB5.size; (try simp at hz5); (first | (have qb := BoxF.below (w := (W0.alloc (.cells #[.int .i64 0, .int .i64 0, .int .i64 0, .int .i64 0] 25 (0, 0))).drew) (BoxF.new W0 [.int .i64 0, .int .i64 0, .int .i64 0, .int .i64 0] 25) hB5; obtain ⟨i0, i1, i2, i3, iF⟩ := qb.four) | (have qb := BoxF.below (BoxF.new _ [.int .i64 0, .int .i64 0, .int .i64 0, .int .i64 0] 25) hB5; obtain ⟨i0, i1, i2, i3, iF⟩ := qb.four) | (have qc := BoxF.below qb hB5; clear qb i0 i1 i2 i3 iF; have qb := qc; clear qc; obtain ⟨i0, i1, i2, i3, iF⟩ := qb.four) | skip)))
        all_goals
          rename_i hh
          have hj := js_jk hh
          rw [HO.out.1, HO.out.2] at hj
          have HJ := Lib.hid hj
          clear hj hh
          go_wp2_with fail
          go_meet
          first
            | exact ⟨_, rfl, rfl, BoxF.new W5 [.int .i64 c, .int .i64 k, .int .i64 a, .int .i64 t] 25, HJ.out⟩
            | exact ⟨_, rfl, rfl, BoxF.all4 qb, HJ.out⟩
      case rest =>
        obtain ⟨g2, rfl, rfl, hx2, hJ2⟩ := hcut
        have h1 := (hJ2.2.2.2.2 _ rfl).2
        have hb := Lib.hid hJ2.2.2.1
        obtain ⟨y0, y1, y2, y3, yF⟩ := BoxF.four h1
        obtain ⟨x0, x1, x2, x3, xF⟩ := hx2.four
        clear hx2 hJ2 hJ h1
        go_wp2_with fail
        refine (HQ.out _).mono ?_
        rintro e W6 ⟨rfl, b3⟩
        go_wp2_with fail
        go_ret
        exact ⟨rfl, hb.out.trans (b3.mono hb.out.size)⟩
  · go_enter Tryd.func11, Tryd.ntmps11
    go_upto_region 1 with fail
    go_cut [5, 6] (fun s5 s6 wx => ∃ g : Nat, s5 = .pointer (some ⟨g, 0, none⟩) ∧ s6 = .bool true ∧ BoxF wx g [.int .i64 c, .int .i64 k, .int .i64 a, .int .i64 t] 25 ∧ JK w [.int .i64 a0_0, .int .i64 a0_1, .int .i64 a0_2, .int .i64 a0_3] [.int .i64 a1_0, .int .i64 a1_1, .int .i64 a1_2, .int .i64 a1_3] none (w.heap.size + 2) wx)
    case first =>
      have hJ := J0.out
      generalize (w.alloc (.cells #[.int .i64 a0_0, .int .i64 a0_1, .int .i64 a0_2, .int .i64 a0_3] 41 (0, 0))).alloc (.cells #[.int .i64 a1_0, .int .i64 a1_1, .int .i64 a1_2, .int .i64 a1_3] 41 (0, 0)) = W0 at *
      obtain ⟨o, ho⟩ : ∃ o : Option (Nat × List Value × TypeId), o = none := ⟨_, rfl⟩
      obtain ⟨N, hN⟩ : ∃ N, N = w.heap.size + 2 := ⟨_, rfl⟩
      rw [← ho, ← hN] at hJ
      have H2 := Lib.hid hJ.two
      have HO := Lib.hid (And.intro ho hN)
      have hS00 := js_of hJ
      have hS0 := js_drew hS00
      clear hJ ho hN
      go_region_held3 (fun w' => (w'.cell? ⟨w.heap.size, 0, none⟩ = some (.int .i64 a0_0) ∧ w'.cell? ⟨w.heap.size, 1, none⟩ = some (.int .i64 a0_1) ∧ w'.cell? ⟨w.heap.size, 2, none⟩ = some (.int .i64 a0_2) ∧ w'.cell? ⟨w.heap.size, 3, none⟩ = some (.int .i64 a0_3) ∧ w'.cell? ⟨w.heap.size + 1, 0, none⟩ = some (.int .i64 a1_0) ∧ w'.cell? ⟨w.heap.size + 1, 1, none⟩ = some (.int .i64 a1_1) ∧ w'.cell? ⟨w.heap.size + 1, 2, none⟩ = some (.int .i64 a1_2) ∧ w'.cell? ⟨w.heap.size + 1, 3, none⟩ = some (.int .i64 a1_3) ∧ JK w [.int .i64 a0_0, .int .i64 a0_1, .int .i64 a0_2, .int .i64 a0_3] [.int .i64 a1_0, .int .i64 a1_1, .int .i64 a1_2, .int .i64 a1_3] o N w'))
        (first
          | with_reducible exact hS0
          | with_reducible assumption
          | (with_reducible refine js_alloc ?_; with_reducible assumption)
          | (with_reducible refine js_drew ?_; with_reducible refine js_alloc ?_; with_reducible exact hS00)
          | (with_reducible refine js_set4 ?_ ?_; (first | omega | (have := H2.out; omega) | (have := H2.out; simp; omega)); with_reducible assumption))
        (first
          | (go_at_call 28; (with_reducible refine (CA.out o N _ ?_).mono ?_); (with_reducible assumption); rintro e W3 ⟨rfl, hS3, hB3⟩; have hz3 := hB3.size; (try simp at hz3); (first | (have qb := BoxF.below (w := (W0.alloc (.cells #[.int .i64 0, .int .i64 0, .int .i64 0, .int .i64 0] 25 (0, 0))).drew) (BoxF.new W0 [.int .i64 0, .int .i64 0, .int .i64 0, .int .i64 0] 25) hB3; obtain ⟨i0, i1, i2, i3, iF⟩ := qb.four) | (have qb := BoxF.below (BoxF.new _ [.int .i64 0, .int .i64 0, .int .i64 0, .int .i64 0] 25) hB3; obtain ⟨i0, i1, i2, i3, iF⟩ := qb.four) | (have qc := BoxF.below qb hB3; clear qb i0 i1 i2 i3 iF; have qb := qc; clear qc; obtain ⟨i0, i1, i2, i3, iF⟩ := qb.four) | skip))
          | (go_at_call 28; (with_reducible refine (CB.out o N _ ?_).mono ?_); (with_reducible assumption); rintro e W4 ⟨rfl, hS4, hB4⟩; have hz4 := hB4.size; (try simp at hz4); (first | (have qb := BoxF.below (w := (W0.alloc (.cells #[.int .i64 0, .int .i64 0, .int .i64 0, .int .i64 0] 25 (0, 0))).drew) (BoxF.new W0 [.int .i64 0, .int .i64 0, .int .i64 0, .int .i64 0] 25) hB4; obtain ⟨i0, i1, i2, i3, iF⟩ := qb.four) | (have qb := BoxF.below (BoxF.new _ [.int .i64 0, .int .i64 0, .int .i64 0, .int .i64 0] 25) hB4; obtain ⟨i0, i1, i2, i3, iF⟩ := qb.four) | (have qc := BoxF.below qb hB4; clear qb i0 i1 i2 i3 iF; have qb := qc; clear qc; obtain ⟨i0, i1, i2, i3, iF⟩ := qb.four) | skip))
          | (go_at_call 24; (with_reducible refine (CS.out o N _ ?_).mono ?_); (with_reducible assumption); rintro e W5 ⟨rfl, hS5, hB5⟩; have hz5 := hB5.size; (try simp at hz5); (first | (have qb := BoxF.below (w := (W0.alloc (.cells #[.int .i64 0, .int .i64 0, .int .i64 0, .int .i64 0] 25 (0, 0))).drew) (BoxF.new W0 [.int .i64 0, .int .i64 0, .int .i64 0, .int .i64 0] 25) hB5; obtain ⟨i0, i1, i2, i3, iF⟩ := qb.four) | (have qb := BoxF.below (BoxF.new _ [.int .i64 0, .int .i64 0, .int .i64 0, .int .i64 0] 25) hB5; obtain ⟨i0, i1, i2, i3, iF⟩ := qb.four) | (have qc := BoxF.below qb hB5; clear qb i0 i1 i2 i3 iF; have qb := qc; clear qc; obtain ⟨i0, i1, i2, i3, iF⟩ := qb.four) | skip)))
      all_goals
        rename_i hh
        have hj := js_jk hh
        rw [HO.out.1, HO.out.2] at hj
        have HJ := Lib.hid hj
        clear hj hh
        go_wp2_with fail
        go_meet
        first
          | exact ⟨_, rfl, rfl, BoxF.new W5 [.int .i64 c, .int .i64 k, .int .i64 a, .int .i64 t] 25, HJ.out⟩
          | exact ⟨_, rfl, rfl, BoxF.all4 qb, HJ.out⟩
    case rest =>
      obtain ⟨g, rfl, rfl, hx, hJ1⟩ := hcut
      have hJ := Lib.hid (hJ1.next hx)
      clear hJ1 hx J0
      go_upto_region 2 with fail
      go_cut [7, 8] (fun s7 s8 wx => ∃ g2 : Nat, s7 = .pointer (some ⟨g2, 0, none⟩) ∧ s8 = .bool true ∧ BoxF wx g2 [.int .i64 c, .int .i64 k, .int .i64 a, .int .i64 t] 25 ∧ JK w [.int .i64 a0_0, .int .i64 a0_1, .int .i64 a0_2, .int .i64 a0_3] [.int .i64 a1_0, .int .i64 a1_1, .int .i64 a1_2, .int .i64 a1_3] (some (g, [.int .i64 c, .int .i64 k, .int .i64 a, .int .i64 t], 25)) wc.heap.size wx)
      case first =>
        have hJ1 := hJ.out
        obtain ⟨W0, hW⟩ : ∃ W0, W0 = wc := ⟨_, rfl⟩
        subst hW
        obtain ⟨o, ho⟩ : ∃ o : Option (Nat × List Value × TypeId), o = some (g, [.int .i64 c, .int .i64 k, .int .i64 a, .int .i64 t], 25) := ⟨_, rfl⟩
        obtain ⟨N, hN⟩ : ∃ N, N = W0.heap.size := ⟨_, rfl⟩
        rw [← ho, ← hN] at hJ1
        have H2 := Lib.hid hJ1.two
        have HO := Lib.hid (And.intro ho hN)
        have hS00 := js_of hJ1
        have hS0 := js_drew hS00
        clear hJ1 ho hN
        go_region_held3 (fun w' => (w'.cell? ⟨w.heap.size, 0, none⟩ = some (.int .i64 a0_0) ∧ w'.cell? ⟨w.heap.size, 1, none⟩ = some (.int .i64 a0_1) ∧ w'.cell? ⟨w.heap.size, 2, none⟩ = some (.int .i64 a0_2) ∧ w'.cell? ⟨w.heap.size, 3, none⟩ = some (.int .i64 a0_3) ∧ w'.cell? ⟨w.heap.size + 1, 0, none⟩ = some (.int .i64 a1_0) ∧ w'.cell? ⟨w.heap.size + 1, 1, none⟩ = some (.int .i64 a1_1) ∧ w'.cell? ⟨w.heap.size + 1, 2, none⟩ = some (.int .i64 a1_2) ∧ w'.cell? ⟨w.heap.size + 1, 3, none⟩ = some (.int .i64 a1_3) ∧ JK w [.int .i64 a0_0, .int .i64 a0_1, .int .i64 a0_2, .int .i64 a0_3] [.int .i64 a1_0, .int .i64 a1_1, .int .i64 a1_2, .int .i64 a1_3] o N w'))
          (first
            | with_reducible exact hS0
            | with_reducible assumption
            | (with_reducible refine js_alloc ?_; with_reducible assumption)
            | (with_reducible refine js_drew ?_; with_reducible refine js_alloc ?_; with_reducible exact hS00)
            | (with_reducible refine js_set4 ?_ ?_; (first | omega | (have := H2.out; omega) | (have := H2.out; simp; omega)); with_reducible assumption))
          (first
            | (go_at_call 28; (with_reducible refine (CA.out o N _ ?_).mono ?_); (with_reducible assumption); rintro e W3 ⟨rfl, hS3, hB3⟩; have hz3 := hB3.size; (try simp at hz3); (first | (have qb := BoxF.below (w := (W0.alloc (.cells #[.int .i64 0, .int .i64 0, .int .i64 0, .int .i64 0] 25 (0, 0))).drew) (BoxF.new W0 [.int .i64 0, .int .i64 0, .int .i64 0, .int .i64 0] 25) hB3; obtain ⟨i0, i1, i2, i3, iF⟩ := qb.four) | (have qb := BoxF.below (BoxF.new _ [.int .i64 0, .int .i64 0, .int .i64 0, .int .i64 0] 25) hB3; obtain ⟨i0, i1, i2, i3, iF⟩ := qb.four) | (have qc := BoxF.below qb hB3; clear qb i0 i1 i2 i3 iF; have qb := qc; clear qc; obtain ⟨i0, i1, i2, i3, iF⟩ := qb.four) | skip))
            | (go_at_call 28; (with_reducible refine (CB.out o N _ ?_).mono ?_); (with_reducible assumption); rintro e W4 ⟨rfl, hS4, hB4⟩; have hz4 := hB4.size; (try simp at hz4); (first | (have qb := BoxF.below (w := (W0.alloc (.cells #[.int .i64 0, .int .i64 0, .int .i64 0, .int .i64 0] 25 (0, 0))).drew) (BoxF.new W0 [.int .i64 0, .int .i64 0, .int .i64 0, .int .i64 0] 25) hB4; obtain ⟨i0, i1, i2, i3, iF⟩ := qb.four) | (have qb := BoxF.below (BoxF.new _ [.int .i64 0, .int .i64 0, .int .i64 0, .int .i64 0] 25) hB4; obtain ⟨i0, i1, i2, i3, iF⟩ := qb.four) | (have qc := BoxF.below qb hB4; clear qb i0 i1 i2 i3 iF; have qb := qc; clear qc; obtain ⟨i0, i1, i2, i3, iF⟩ := qb.four) | skip))
            | (go_at_call 23; (with_reducible refine (CI.out o N _ ?_).mono ?_); (with_reducible assumption); rintro e W5 ⟨rfl, hS5, hB5⟩; have hz5 := hB5.size; (try simp at hz5); (first | (have qb := BoxF.below (w := (W0.alloc (.cells #[.int .i64 0, .int .i64 0, .int .i64 0, .int .i64 0] 25 (0, 0))).drew) (BoxF.new W0 [.int .i64 0, .int .i64 0, .int .i64 0, .int .i64 0] 25) hB5; obtain ⟨i0, i1, i2, i3, iF⟩ := qb.four) | (have qb := BoxF.below (BoxF.new _ [.int .i64 0, .int .i64 0, .int .i64 0, .int .i64 0] 25) hB5; obtain ⟨i0, i1, i2, i3, iF⟩ := qb.four) | (have qc := BoxF.below qb hB5; clear qb i0 i1 i2 i3 iF; have qb := qc; clear qc; obtain ⟨i0, i1, i2, i3, iF⟩ := qb.four) | skip)))
        all_goals
          rename_i hh
          have hj := js_jk hh
          rw [HO.out.1, HO.out.2] at hj
          have HJ := Lib.hid hj
          clear hj hh
          go_wp2_with fail
          go_meet
          first
            | exact ⟨_, rfl, rfl, BoxF.new W5 [.int .i64 c, .int .i64 k, .int .i64 a, .int .i64 t] 25, HJ.out⟩
            | exact ⟨_, rfl, rfl, BoxF.all4 qb, HJ.out⟩
      case rest =>
        obtain ⟨g2, rfl, rfl, hx2, hJ2⟩ := hcut
        have h1 := (hJ2.2.2.2.2 _ rfl).2
        have hb := Lib.hid hJ2.2.2.1
        obtain ⟨y0, y1, y2, y3, yF⟩ := BoxF.four h1
        obtain ⟨x0, x1, x2, x3, xF⟩ := hx2.four
        clear hx2 hJ2 hJ h1
        go_wp2_with fail
        refine (HQ.out _).mono ?_
        rintro e W6 ⟨rfl, b3⟩
        go_wp2_with fail
        go_ret
        exact ⟨rfl, hb.out.trans (b3.mono hb.out.size)⟩

/-! ### THE ROW's STEP: WRITTEN OUT: LEAVE IT -/
set_option maxRecDepth 100000 in
set_option maxHeartbeats 4000000 in
theorem lifted (os : Os) (started : os.Started) (H : Type) (enc : TypeId × Value → H) :
    ReturnsInHanded {} Tryd.checked os 11 .any (fun w args => (Rows.fnExactJoinGroupsSpec.pre enc Tryd.prog Tryd.f11 Rows.fnExactJoinGroupsRow.domain false w args ∧ laidMetH Tryd.prog laidL w) ∧ sizedMet enc Tryd.prog Tryd.f11 (OpenSpec.ofChange Rows.fnExactJoinGroupsSpec) false w args)
      (Rows.fnExactJoinGroupsSpec.post enc Tryd.prog Tryd.f11 false true false false) := by
  refine returnsInHanded_of_change_and (C := Tryd.checked) (X := fun w _ => laidMetH Tryd.prog laidL w) (fun _ _ _ hh h => h.of_heap hh) own started (by kernel_rfl) Tryd.func11
    (ChangeSpec.witness_shaped (enc := enc) (C := Tryd.checked) (os := os) (X := fun w _ => laidMetH Tryd.prog laidL w) false (World.doorLaid Tryd.prog 400 os) #[.agg #[.int .i64 0, .int .i64 0, .int .i64 0, .int .i64 0], .agg #[.int .i64 0, .int .i64 0, .int .i64 0, .int .i64 0]] 8 rfl (World.shaped_of_RefB (by kernel_rfl) (by kernel_rfl)) (by kernel_rfl) (by kernel_rfl) (by kernel_rfl) (door_met os _)) ?_
  intro W base args ds gs before hval0 hW _ hsz0 hL _
  have hval : ∀ (j : Nat) t v, Tryd.f11.params[j]? = some t → args[j]? = some v → Value.okWide Tryd.prog W .any base t v := hval0
  have hW' := hW
  obtain ⟨p, q, hA0, hV, rfl, hfz, hnd⟩ := hW
  have hA : DataW.TrodAll enc Tryd.prog W 0 (fun _ => true) true Tryd.f11.params.toList args.toList ds p := hA0
  rw [Tryd.params11] at hA hval
  obtain ⟨v0, vs0, d0, ds0, p0, q0, hargs, rfl, rfl, h0, r0⟩ := trodAll_cons hA
  obtain ⟨v1, vs1, d1, ds1, p1, q1, rfl, rfl, rfl, h1, r1⟩ := trodAll_cons r0
  obtain ⟨rfl, rfl, rfl⟩ := trodAll_nil r1
  obtain rfl : args = #[v0, v1] := by cases args; simp_all
  obtain ⟨gv, tv, csv, fuelv, dv, pv, hgs, _⟩ := trodVars_one hV
  subst hgs
  have k0 := h0
  have lt0 : ∀ x ∈ p0, x.block < W.heap.size := by obtain ⟨m, hm⟩ := k0; exact DataW.trod_lt m _ _ _ hm
  obtain ⟨a0_0, a0_1, a0_2, a0_3, rfl, w0⟩ : ∃ a0_0 a0_1 a0_2 a0_3 : Int, v0 = .agg #[.int .i64 a0_0, .int .i64 a0_1, .int .i64 a0_2, .int .i64 a0_3] ∧ ∀ z ∈ [a0_0, a0_1, a0_2, a0_3], (Lit.int .i64 z).wf = true := by
    obtain ⟨zs, hl, rfl, hw⟩ := flat_open (n := 4) Tryd.underlying41 (by kernel_rfl) (by kernel_rfl) (hval 0 41 v0 rfl rfl) h0
    obtain ⟨a0_0, a0_1, a0_2, a0_3, rfl⟩ := cells4 hl
    exact ⟨a0_0, a0_1, a0_2, a0_3, rfl, hw⟩
  have k1 := h1
  have lt1 : ∀ x ∈ p1, x.block < W.heap.size := by obtain ⟨m, hm⟩ := k1; exact DataW.trod_lt m _ _ _ hm
  obtain ⟨a1_0, a1_1, a1_2, a1_3, rfl, w1⟩ : ∃ a1_0 a1_1 a1_2 a1_3 : Int, v1 = .agg #[.int .i64 a1_0, .int .i64 a1_1, .int .i64 a1_2, .int .i64 a1_3] ∧ ∀ z ∈ [a1_0, a1_1, a1_2, a1_3], (Lit.int .i64 z).wf = true := by
    obtain ⟨zs, hl, rfl, hw⟩ := flat_open (n := 4) Tryd.underlying41 (by kernel_rfl) (by kernel_rfl) (hval 1 41 v1 rfl rfl) h1
    obtain ⟨a1_0, a1_1, a1_2, a1_3, rfl⟩ := cells4 hl
    exact ⟨a1_0, a1_1, a1_2, a1_3, rfl, hw⟩
  clear hA0 hval0
  refine (walk a0_0 a0_1 a0_2 a0_3 a1_0 a1_1 a1_2 a1_3 w0 w1 W hL).mono fun e W' ⟨he, bel⟩ => ?_
  subst he
  exact ⟨_, rfl, _, _, _, [], _, q, hW', (trodAll_cons_mk (shut_bool Tryd.underlying4 _) trodAll_mk0), (trodAll_cons_mk (Below.trod (by kernel_rfl) (by kernel_rfl) (of_decide_eq_true (by kernel_rfl)) k0 bel lt0) (trodAll_cons_mk (Below.trod (by kernel_rfl) (by kernel_rfl) (of_decide_eq_true (by kernel_rfl)) k1 bel lt1) trodAll_mk0)), Below.trodVars (by kernel_rfl) bel (by kernel_rfl) hV, bel.frame _, fun h => by cases h⟩

theorem over : Rows.fnExactJoinGroupsRow.holds Tryd.pinned (OpenSpec.ofChange Rows.fnExactJoinGroupsSpec) :=
  OpenClaim.holds_of_wide 11 Tryd.f11 rfl rfl rfl rfl rfl rfl rfl ⟨rfl, rfl, rfl, rfl, rfl⟩ rfl rfl rfl rfl rfl (by kernel_rfl) Tryd.func11 (by kernel_rfl)
    (of_decide_eq_true (by kernel_rfl)) (by unfold Func.isWrapper; first | (rw [if_pos (by decide +kernel)]; kernel_rfl) | (rw [if_neg (by decide +kernel)]; exact ⟨rfl, rfl⟩))
    (fun os started H enc _ => lifted os started H enc)

/-- The row's statement. -/
theorem proved : Rows.FnExactJoinGroupsSaid :=
  over

/-- THE TIED CARD: the listed variables are those that the program's own text lays. -/
theorem card : Rows.FnExactJoinGroupsCardSaid :=
  Claim7.holds_tied_plain_at .later [] [.widerDeep] true (true, "5345184ecfd63a51511ccb799623285e2c420bb998cecc5c2c6c155aed650024") false
    proved (fun _ h => by cases h) (by kernel_rfl) (fun _ h => by cases h) fnExactJoinGroups_row_tie rfl ⟨rfl, rfl⟩ (by kernel_rfl) rfl
    (fun f fn hf hfn => by
      obtain rfl : f = 11 := Option.some.inj ((show Tryd.prog.funcNamed "loop.example/g00884/laws.FnExactJoinGroups" = some 11 by kernel_rfl).symm.trans hf) |>.symm
      obtain rfl : fn = Tryd.f11 := (Option.some.inj (Tryd.func11.symm.trans hfn)).symm
      exact ⟨by kernel_rfl, fun j t ht => by
        rw [Tryd.params11] at ht
        have hm : t ∈ [41] := by
          have := Array.mem_of_getElem? ht
          simpa using this
        have hall : ([41].all fun u => !Tryd.prog.wantsStandIn u) = true := by kernel_rfl
        exact (show Tryd.prog.wantsStandIn t = false by simpa using List.all_eq_true.1 hall t hm)⟩)
    (by kernel_rfl)
#print axioms card
end Go.Proofs.YtklfkdmmclomoaaDoor.fnExactJoinGroups
