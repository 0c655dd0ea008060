/- FnArmsParts: at every slice of bytes the law returns true: other fields, ordinaries and groups are the model's and lead back to the arms, and the simplest arms of a list are the model's and have the fewest layers. The card ties the table of attitudes to the program's text. No condition. -/
import Derived.Test.YtpcghkciibbmgaaDoorRows
import Derived.Test.YtpcghkciibbmgaaDoorCards
import Derived.Test.YtpcghkciibbmgaaDoorTie
import Derived.WalkKit
import Derived.ProofKit
import Derived.OpenShut
import Derived.ShutString
import Derived.Test.YtpcghkciibbmgaaDoorMergeC
import Derived.Test.YtpcghkciibbmgaaDoorMergeB
import Derived.Test.YtpcghkciibbmgaaDoorRArmsV
import Derived.Deep.DeepCutAuto
import Derived.LaidMore
import Derived.Stop.Joined
import Derived.SevenTiedAt
import Derived.OpenVars
import Derived.ChangeVars
import Derived.ChangeOld
import Derived.Below
namespace Go.Proofs.YtpcghkciibbmgaaDoor.fnArmsParts
open Go.ChangeShapes Go.WideShapes Go.ChangeAt Go.RowKit
open Go.ChangeMaps (open_string shut_string)
set_option linter.unusedVariables false

def laidL : List (String × DataW Unit) := [("loop.example/g00884/impl.attitudeWords", Rows.laid_loop_example_g00884_impl_attitudeWords)]

/-- The door's own heap meets the condition. -/
theorem door_met (os : Os) (args : Array Value) : laidMetH Tryd.prog laidL ((World.doorLaid Tryd.prog 400 os).forCall (fun _ _ => 0) ⟨#[], args, []⟩).memory :=
  laidMetH_of_parts3 (fuel := 8) (laidMet_of_run' 8 (by kernel_rfl) (by kernel_rfl)) (by kernel_rfl) (by kernel_rfl)

theorem own : ownKnob Tryd.prog.godebug = none := by kernel_rfl
theorem laidOut : laidOutB Tryd.prog = true := by kernel_rfl

/-- WHAT THE WALK IS TOLD OF A SLICE OF INTEGERS THAT CAME IN: it is nil; or it leads to a row of 'cap' cells, the numbers 'zs' (the first 'len' are its elements, the rest its spare room), each fitting its kind. -/
def IsRow (k : IntKind) (w : World) (a : Option Addr) (len cap : Nat) (zs : List Int) : Prop :=
  (a = none ∧ len = 0 ∧ cap = 0 ∧ zs = []) ∨
  ∃ x, a = some x ∧ len ≤ cap ∧ cap ≤ maxLen ∧ zs.length = cap ∧ (∀ i, i < zs.length → w.cell? (x.add i) = some (.int k (zs.getD i 0))) ∧ ∀ n ∈ zs, (Lit.int k n).wf = true

/-! ### STEP 1: THE WALK: the Go text returns true, AND WRITES NOTHING THAT WAS THERE: 'Below w.heap.size w w'' (Derived/Below.lean: '.refl', '.alloc', '.drew', '.setCell' at a new block, '.trans'). Open each 'IsRow' by 'rcases' AHEAD of 'go_enter'; part every test ahead of the walk. -/
set_option maxHeartbeats 20000000 in
set_option maxRecDepth 100000 in
theorem walk (a0 : Option Addr) (len0 cap0 : Nat) (z0 : List Int) (w : World) (w0 : IsRow .u8 w a0 len0 cap0 z0) (hL : laidMetH Tryd.prog laidL w) :
    Calls Tryd.prog 4 #[.slice a0 len0 cap0] w fun e w' => e = .returned (.bool true) ∧ Below w.heap.size w w' := by
  have hA : AttsLie w := attsH hL
  clear hL
  have hR : RdB w w.heap.size a0 len0 := by
    rcases w0 with ⟨rfl, rfl, rfl, rfl⟩ | ⟨⟨b, o, spot⟩, rfl, hl, hm, hz, hc, hwf⟩
    · intro h; omega
    · refine rdb_of (fun k hk => hc k (by omega)) (fun k hk => ?_)
      have e2 : z0.getD k 0 = z0[k]'(by omega) := by simp [List.getD, show k < z0.length by omega]
      have h2 := hwf (z0.getD k 0) (by rw [e2]; exact List.getElem_mem _)
      exact (by simpa [Lit.wf] using h2)
  clear w0
  have hB := vBig_any a0 len0 cap0 w
  by_cases hbig : (65536 : Int) < (len0 : Int)
  · have e1 : decide ((65536 : Int) < (len0 : Int)) = true := by simp; omega
    simp only [e1] at hB
    clear hR
    go_enter Tryd.func4, Tryd.ntmps4
    go_wp2_with (go_at_call 5; refine hB.mono ?_; rintro e w' ⟨rfl, rfl⟩)
    go_ret
    exact ⟨rfl, Below.refl _ _⟩
  · have e1 : decide ((65536 : Int) < (len0 : Int)) = false := by simp; omega
    simp only [e1] at hB
    have hn : len0 ≤ 65536 := by omega
    have hsz0 : w.heap.size ≤ w.heap.size := Nat.le_refl _
    have cd := drawWF_any a0 len0 cap0 w hR hn
    go_enter Tryd.func4, Tryd.ntmps4
    go_wp2_with (go_at_call 5; refine hB.mono ?_; rintro e w' ⟨rfl, rfl⟩)
    refine cd.mono ?_
    rintro e w1 ⟨⟨d, l, f, s, o, ln, tn, c, k, a, t, c', k', a', t', y0, y1, y2, y3, rfl⟩, hb1⟩
    clear hB cd hsz0
    obtain ⟨m0, m1, m2, m3, m4, m5, m6, m7, m8, m9, m10, m11, m12, m13, m14, z0, z1, z2, z3, z4, z5, z6, z7, z8, z9, z10, z11, z12, z13, z14, ok, cs, ci, ci2, hn2⟩ := partsF d l f s o ln tn c k a t c' k' a' t' y0 y1 y2 y3 w hA
    have CS := Lib.hid cs
    have CI := Lib.hid ci
    have CI2 := Lib.hid ci2
    have HN2 := Lib.hid hn2
    have nr : ∀ W, (binOp .neq 29 (.agg #[.int .i64 m0, .int .i64 m1, .int .i64 m2, .int .i64 m3, .int .i64 m4, .int .i64 m5, .int .i64 m6, .int .i64 m7, .int .i64 m8, .int .i64 m9, .int .i64 m10, .int .i64 m11, .int .i64 m12, .int .i64 m13, .int .i64 m14]) (.agg #[.int .i64 m0, .int .i64 m1, .int .i64 m2, .int .i64 m3, .int .i64 m4, .int .i64 m5, .int .i64 m6, .int .i64 m7, .int .i64 m8, .int .i64 m9, .int .i64 m10, .int .i64 m11, .int .i64 m12, .int .i64 m13, .int .i64 m14])).run Tryd.prog W = .ok (.bool false) W := fun W => (neArms_run m0 m1 m2 m3 m4 m5 m6 m7 m8 m9 m10 m11 m12 m13 m14 m0 m1 m2 m3 m4 m5 m6 m7 m8 m9 m10 m11 m12 m13 m14 W).trans (by simp)
    have NR := Lib.hid nr
    have eo : (ok != ok) = false := by cases ok <;> rfl
    have EO := Lib.hid eo
    have HA := Lib.hid hA
    have HRB := Lib.hid hR
    clear cs ci ci2 hn2 nr eo hA hR
    have XA1 := Lib.hid ((BoxF.new w1 [.int .i64 d, .int .i64 l, .int .i64 f, .int .i64 s, .int .i64 o, .int .i64 ln, .int .i64 tn, .int .i64 c, .int .i64 k, .int .i64 a, .int .i64 t, .int .i64 c', .int .i64 k', .int .i64 a', .int .i64 t'] 29).alloc (.cells #[.int .i64 y0, .int .i64 y1, .int .i64 y2, .int .i64 y3] 25 (0, 0)))
    have xf_ := BoxF.new (w1.alloc (.cells #[.int .i64 d, .int .i64 l, .int .i64 f, .int .i64 s, .int .i64 o, .int .i64 ln, .int .i64 tn, .int .i64 c, .int .i64 k, .int .i64 a, .int .i64 t, .int .i64 c', .int .i64 k', .int .i64 a', .int .i64 t'] 29 (0, 0))) [.int .i64 y0, .int .i64 y1, .int .i64 y2, .int .i64 y3] 25
    simp only [World.size_alloc] at xf_
    have XF1 := Lib.hid xf_
    have HB1 := Lib.hid ((hb1.alloc hb1.size (.cells #[.int .i64 d, .int .i64 l, .int .i64 f, .int .i64 s, .int .i64 o, .int .i64 ln, .int .i64 tn, .int .i64 c, .int .i64 k, .int .i64 a, .int .i64 t, .int .i64 c', .int .i64 k', .int .i64 a', .int .i64 t'] 29 (0, 0))).alloc (by have := hb1.size; simp; omega) (.cells #[.int .i64 y0, .int .i64 y1, .int .i64 y2, .int .i64 y3] 25 (0, 0)))
    clear hb1 xf_
    have r_A := XA1.out.range
    have b_ := XF1.out
    obtain ⟨F_0, F_1, F_2, F_3, F_f⟩ := b_.four
    clear b_
    go_wp2_with (first | (with_reducible refine isList ?_; refine ld15 3 w1.heap.size [.int .i64 d, .int .i64 l, .int .i64 f, .int .i64 s, .int .i64 o, .int .i64 ln, .int .i64 tn, .int .i64 c, .int .i64 k, .int .i64 a, .int .i64 t, .int .i64 c', .int .i64 k', .int .i64 a', .int .i64 t'] rfl rfl rfl rfl ?_ ?_; exact r_A))
    clear r_A F_0 F_1 F_2 F_3 F_f
    obtain ⟨DA, hD⟩ : ∃ D, w1.heap.size = D := ⟨_, rfl⟩
    rw [hD] at XA1 XF1 ⊢
    clear hD
    generalize (w1.alloc (.cells #[.int .i64 d, .int .i64 l, .int .i64 f, .int .i64 s, .int .i64 o, .int .i64 ln, .int .i64 tn, .int .i64 c, .int .i64 k, .int .i64 a, .int .i64 t, .int .i64 c', .int .i64 k', .int .i64 a', .int .i64 t'] 29 (0, 0))).alloc (.cells #[.int .i64 y0, .int .i64 y1, .int .i64 y2, .int .i64 y3] 25 (0, 0)) = V1 at *
    refine (CI.out _ HB1.out).mono ?_
    rintro e w2 ⟨rfl, g_⟩
    have XA2 := Lib.hid ((XA1.out.below g_).alloc (.cells #[.int .i64 m0, .int .i64 m1, .int .i64 m2, .int .i64 m3, .int .i64 m4, .int .i64 m5, .int .i64 m6, .int .i64 m7, .int .i64 m8, .int .i64 m9, .int .i64 m10, .int .i64 m11, .int .i64 m12, .int .i64 m13, .int .i64 m14] 29 (0, 0)))
    have XF2 := Lib.hid ((XF1.out.below g_).alloc (.cells #[.int .i64 m0, .int .i64 m1, .int .i64 m2, .int .i64 m3, .int .i64 m4, .int .i64 m5, .int .i64 m6, .int .i64 m7, .int .i64 m8, .int .i64 m9, .int .i64 m10, .int .i64 m11, .int .i64 m12, .int .i64 m13, .int .i64 m14] 29 (0, 0)))
    have HB2 := Lib.hid ((HB1.out.trans (g_.mono HB1.out.size)).alloc (HB1.out.trans (g_.mono HB1.out.size)).size (.cells #[.int .i64 m0, .int .i64 m1, .int .i64 m2, .int .i64 m3, .int .i64 m4, .int .i64 m5, .int .i64 m6, .int .i64 m7, .int .i64 m8, .int .i64 m9, .int .i64 m10, .int .i64 m11, .int .i64 m12, .int .i64 m13, .int .i64 m14] 29 (0, 0)))
    clear g_ HB1 XA1 XF1
    have XB2 := Lib.hid (BoxF.new w2 [.int .i64 m0, .int .i64 m1, .int .i64 m2, .int .i64 m3, .int .i64 m4, .int .i64 m5, .int .i64 m6, .int .i64 m7, .int .i64 m8, .int .i64 m9, .int .i64 m10, .int .i64 m11, .int .i64 m12, .int .i64 m13, .int .i64 m14] 29)
    have r_B := XB2.out.range
    have b_ := XA2.out
    obtain ⟨A_0, A_1, A_2, A_3, A_4, A_5, A_6, A_7, A_8, A_9, A_10, A_11, A_12, A_13, A_14, A_f⟩ := b_.fifteen
    clear b_
    go_wp2_with (first | (with_reducible refine isList ?_; refine ld15 5 w2.heap.size [.int .i64 m0, .int .i64 m1, .int .i64 m2, .int .i64 m3, .int .i64 m4, .int .i64 m5, .int .i64 m6, .int .i64 m7, .int .i64 m8, .int .i64 m9, .int .i64 m10, .int .i64 m11, .int .i64 m12, .int .i64 m13, .int .i64 m14] rfl rfl rfl rfl ?_ ?_; exact r_B))
    clear r_B A_0 A_1 A_2 A_3 A_4 A_5 A_6 A_7 A_8 A_9 A_10 A_11 A_12 A_13 A_14 A_f
    obtain ⟨DB, hD⟩ : ∃ D, w2.heap.size = D := ⟨_, rfl⟩
    rw [hD] at XB2 ⊢
    clear hD
    generalize w2.alloc (.cells #[.int .i64 m0, .int .i64 m1, .int .i64 m2, .int .i64 m3, .int .i64 m4, .int .i64 m5, .int .i64 m6, .int .i64 m7, .int .i64 m8, .int .i64 m9, .int .i64 m10, .int .i64 m11, .int .i64 m12, .int .i64 m13, .int .i64 m14] 29 (0, 0)) = V2 at *
    refine (CI2.out _ HB2.out).mono ?_
    rintro e w3 ⟨rfl, g_⟩
    have XA3 := Lib.hid ((XA2.out.below g_).alloc (.cells #[.int .i64 z0, .int .i64 z1, .int .i64 z2, .int .i64 z3, .int .i64 z4, .int .i64 z5, .int .i64 z6, .int .i64 z7, .int .i64 z8, .int .i64 z9, .int .i64 z10, .int .i64 z11, .int .i64 z12, .int .i64 z13, .int .i64 z14] 29 (0, 0)))
    have XF3 := Lib.hid ((XF2.out.below g_).alloc (.cells #[.int .i64 z0, .int .i64 z1, .int .i64 z2, .int .i64 z3, .int .i64 z4, .int .i64 z5, .int .i64 z6, .int .i64 z7, .int .i64 z8, .int .i64 z9, .int .i64 z10, .int .i64 z11, .int .i64 z12, .int .i64 z13, .int .i64 z14] 29 (0, 0)))
    have XB3 := Lib.hid ((XB2.out.below g_).alloc (.cells #[.int .i64 z0, .int .i64 z1, .int .i64 z2, .int .i64 z3, .int .i64 z4, .int .i64 z5, .int .i64 z6, .int .i64 z7, .int .i64 z8, .int .i64 z9, .int .i64 z10, .int .i64 z11, .int .i64 z12, .int .i64 z13, .int .i64 z14] 29 (0, 0)))
    have HB3 := Lib.hid ((HB2.out.trans (g_.mono HB2.out.size)).alloc (HB2.out.trans (g_.mono HB2.out.size)).size (.cells #[.int .i64 z0, .int .i64 z1, .int .i64 z2, .int .i64 z3, .int .i64 z4, .int .i64 z5, .int .i64 z6, .int .i64 z7, .int .i64 z8, .int .i64 z9, .int .i64 z10, .int .i64 z11, .int .i64 z12, .int .i64 z13, .int .i64 z14] 29 (0, 0)))
    clear g_ HB2 XA2 XF2 XB2
    have XC3 := Lib.hid (BoxF.new w3 [.int .i64 z0, .int .i64 z1, .int .i64 z2, .int .i64 z3, .int .i64 z4, .int .i64 z5, .int .i64 z6, .int .i64 z7, .int .i64 z8, .int .i64 z9, .int .i64 z10, .int .i64 z11, .int .i64 z12, .int .i64 z13, .int .i64 z14] 29)
    have r_A := XA3.out.range
    have b_ := XF3.out
    obtain ⟨F_0, F_1, F_2, F_3, F_f⟩ := b_.four
    clear b_
    go_wp2_with (first | (with_reducible refine isList ?_; refine ld15 3 DA [.int .i64 d, .int .i64 l, .int .i64 f, .int .i64 s, .int .i64 o, .int .i64 ln, .int .i64 tn, .int .i64 c, .int .i64 k, .int .i64 a, .int .i64 t, .int .i64 c', .int .i64 k', .int .i64 a', .int .i64 t'] rfl rfl rfl rfl ?_ ?_; exact r_A))
    clear r_A F_0 F_1 F_2 F_3 F_f
    obtain ⟨DC, hD⟩ : ∃ D, w3.heap.size = D := ⟨_, rfl⟩
    rw [hD] at XC3 ⊢
    clear hD
    generalize w3.alloc (.cells #[.int .i64 z0, .int .i64 z1, .int .i64 z2, .int .i64 z3, .int .i64 z4, .int .i64 z5, .int .i64 z6, .int .i64 z7, .int .i64 z8, .int .i64 z9, .int .i64 z10, .int .i64 z11, .int .i64 z12, .int .i64 z13, .int .i64 z14] 29 (0, 0)) = V3 at *
    refine (CS.out _).mono ?_
    rintro e w4 ⟨rfl, g_⟩
    have XA4 := Lib.hid ((XA3.out.below g_).alloc (.cells #[.int .i64 m0, .int .i64 m1, .int .i64 m2, .int .i64 m3, .int .i64 m4, .int .i64 m5, .int .i64 m6, .int .i64 m7, .int .i64 m8, .int .i64 m9, .int .i64 m10, .int .i64 m11, .int .i64 m12, .int .i64 m13, .int .i64 m14] 29 (0, 0)))
    have XF4 := Lib.hid ((XF3.out.below g_).alloc (.cells #[.int .i64 m0, .int .i64 m1, .int .i64 m2, .int .i64 m3, .int .i64 m4, .int .i64 m5, .int .i64 m6, .int .i64 m7, .int .i64 m8, .int .i64 m9, .int .i64 m10, .int .i64 m11, .int .i64 m12, .int .i64 m13, .int .i64 m14] 29 (0, 0)))
    have XB4 := Lib.hid ((XB3.out.below g_).alloc (.cells #[.int .i64 m0, .int .i64 m1, .int .i64 m2, .int .i64 m3, .int .i64 m4, .int .i64 m5, .int .i64 m6, .int .i64 m7, .int .i64 m8, .int .i64 m9, .int .i64 m10, .int .i64 m11, .int .i64 m12, .int .i64 m13, .int .i64 m14] 29 (0, 0)))
    have XC4 := Lib.hid ((XC3.out.below g_).alloc (.cells #[.int .i64 m0, .int .i64 m1, .int .i64 m2, .int .i64 m3, .int .i64 m4, .int .i64 m5, .int .i64 m6, .int .i64 m7, .int .i64 m8, .int .i64 m9, .int .i64 m10, .int .i64 m11, .int .i64 m12, .int .i64 m13, .int .i64 m14] 29 (0, 0)))
    have HB4 := Lib.hid ((HB3.out.trans (g_.mono HB3.out.size)).alloc (HB3.out.trans (g_.mono HB3.out.size)).size (.cells #[.int .i64 m0, .int .i64 m1, .int .i64 m2, .int .i64 m3, .int .i64 m4, .int .i64 m5, .int .i64 m6, .int .i64 m7, .int .i64 m8, .int .i64 m9, .int .i64 m10, .int .i64 m11, .int .i64 m12, .int .i64 m13, .int .i64 m14] 29 (0, 0)))
    clear g_ HB3 XA3 XF3 XB3 XC3
    have XW4 := Lib.hid (BoxF.new w4 [.int .i64 m0, .int .i64 m1, .int .i64 m2, .int .i64 m3, .int .i64 m4, .int .i64 m5, .int .i64 m6, .int .i64 m7, .int .i64 m8, .int .i64 m9, .int .i64 m10, .int .i64 m11, .int .i64 m12, .int .i64 m13, .int .i64 m14] 29)
    go_upto_region 7 with fail
    obtain ⟨DW, hD⟩ : ∃ D, w4.heap.size = D := ⟨_, rfl⟩
    rw [hD] at XW4 ⊢
    clear hD
    generalize w4.alloc (.cells #[.int .i64 m0, .int .i64 m1, .int .i64 m2, .int .i64 m3, .int .i64 m4, .int .i64 m5, .int .i64 m6, .int .i64 m7, .int .i64 m8, .int .i64 m9, .int .i64 m10, .int .i64 m11, .int .i64 m12, .int .i64 m13, .int .i64 m14] 29 (0, 0)) = V4 at *
    go_cut [79] (fun sc wx => sc = .bool false ∧ Below w.heap.size w wx)
    case first =>
      as_aux_lemma =>
        have nr := NR.out
        have eo := EO.out
        have r_B := XB4.out.range
        have r_W := XW4.out.range
        have r_C := XC4.out.range
        have r_A := XA4.out.range
        cases ok
        · clear HN2
          go_wp2_with (first | (with_reducible refine isList ?_; refine ld15 5 DB [.int .i64 m0, .int .i64 m1, .int .i64 m2, .int .i64 m3, .int .i64 m4, .int .i64 m5, .int .i64 m6, .int .i64 m7, .int .i64 m8, .int .i64 m9, .int .i64 m10, .int .i64 m11, .int .i64 m12, .int .i64 m13, .int .i64 m14] rfl rfl rfl rfl ?_ ?_; exact r_B) | (with_reducible refine isList ?_; refine ld15 9 DW [.int .i64 m0, .int .i64 m1, .int .i64 m2, .int .i64 m3, .int .i64 m4, .int .i64 m5, .int .i64 m6, .int .i64 m7, .int .i64 m8, .int .i64 m9, .int .i64 m10, .int .i64 m11, .int .i64 m12, .int .i64 m13, .int .i64 m14] rfl rfl rfl rfl ?_ ?_; exact r_W) | (with_reducible refine isList ?_; refine ld15 7 DC [.int .i64 z0, .int .i64 z1, .int .i64 z2, .int .i64 z3, .int .i64 z4, .int .i64 z5, .int .i64 z6, .int .i64 z7, .int .i64 z8, .int .i64 z9, .int .i64 z10, .int .i64 z11, .int .i64 z12, .int .i64 z13, .int .i64 z14] rfl rfl rfl rfl ?_ ?_; exact r_C) | (with_reducible refine isList ?_; refine ld15 3 DA [.int .i64 d, .int .i64 l, .int .i64 f, .int .i64 s, .int .i64 o, .int .i64 ln, .int .i64 tn, .int .i64 c, .int .i64 k, .int .i64 a, .int .i64 t, .int .i64 c', .int .i64 k', .int .i64 a', .int .i64 t'] rfl rfl rfl rfl ?_ ?_; exact r_A))
          go_meet
          exact ⟨rfl, HB4.out⟩
        · have nr2 := HN2.out rfl
          have b_ := XC4.out
          obtain ⟨C_0, C_1, C_2, C_3, C_4, C_5, C_6, C_7, C_8, C_9, C_10, C_11, C_12, C_13, C_14, C_f⟩ := b_.fifteen
          clear b_
          have b_ := XA4.out
          obtain ⟨A_0, A_1, A_2, A_3, A_4, A_5, A_6, A_7, A_8, A_9, A_10, A_11, A_12, A_13, A_14, A_f⟩ := b_.fifteen
          clear b_
          go_wp2_with (first | (with_reducible refine isList ?_; refine ld15 5 DB [.int .i64 m0, .int .i64 m1, .int .i64 m2, .int .i64 m3, .int .i64 m4, .int .i64 m5, .int .i64 m6, .int .i64 m7, .int .i64 m8, .int .i64 m9, .int .i64 m10, .int .i64 m11, .int .i64 m12, .int .i64 m13, .int .i64 m14] rfl rfl rfl rfl ?_ ?_; exact r_B) | (with_reducible refine isList ?_; refine ld15 9 DW [.int .i64 m0, .int .i64 m1, .int .i64 m2, .int .i64 m3, .int .i64 m4, .int .i64 m5, .int .i64 m6, .int .i64 m7, .int .i64 m8, .int .i64 m9, .int .i64 m10, .int .i64 m11, .int .i64 m12, .int .i64 m13, .int .i64 m14] rfl rfl rfl rfl ?_ ?_; exact r_W) | (with_reducible refine isList ?_; refine ld15 7 DC [.int .i64 z0, .int .i64 z1, .int .i64 z2, .int .i64 z3, .int .i64 z4, .int .i64 z5, .int .i64 z6, .int .i64 z7, .int .i64 z8, .int .i64 z9, .int .i64 z10, .int .i64 z11, .int .i64 z12, .int .i64 z13, .int .i64 z14] rfl rfl rfl rfl ?_ ?_; exact r_C) | (with_reducible refine isList ?_; refine ld15 3 DA [.int .i64 d, .int .i64 l, .int .i64 f, .int .i64 s, .int .i64 o, .int .i64 ln, .int .i64 tn, .int .i64 c, .int .i64 k, .int .i64 a, .int .i64 t, .int .i64 c', .int .i64 k', .int .i64 a', .int .i64 t'] rfl rfl rfl rfl ?_ ?_; exact r_A))
          go_meet
          exact ⟨rfl, HB4.out⟩
    case rest =>
      obtain ⟨rfl, hb⟩ := hcut
      clear CS CI CI2 HN2 NR EO XA4 XF4 XB4 XC4 XW4 HB4
      have HB4 := Lib.hid hb
      clear hb
      go_wp2_with fail
      refine (drawWO_any a0 len0 cap0 wc (HRB.out.on HB4.out) hn).mono ?_
      rintro e w5 ⟨⟨p0, p1, p2, p3, p4, p5, p6, p7, p8, p9, p10, p11, p12, p13, p14, o1, n1, x1, rfl⟩, g_⟩
      have HB5 := Lib.hid ((HB4.out.trans (g_.mono HB4.out.size)).alloc (HB4.out.trans (g_.mono HB4.out.size)).size (.cells #[.int .i64 p0, .int .i64 p1, .int .i64 p2, .int .i64 p3, .int .i64 p4, .int .i64 p5, .int .i64 p6, .int .i64 p7, .int .i64 p8, .int .i64 p9, .int .i64 p10, .int .i64 p11, .int .i64 p12, .int .i64 p13, .int .i64 p14] 29 (0, 0)))
      clear g_ HB4
      have XX5 := Lib.hid (BoxF.new w5 [.int .i64 p0, .int .i64 p1, .int .i64 p2, .int .i64 p3, .int .i64 p4, .int .i64 p5, .int .i64 p6, .int .i64 p7, .int .i64 p8, .int .i64 p9, .int .i64 p10, .int .i64 p11, .int .i64 p12, .int .i64 p13, .int .i64 p14] 29)
      obtain ⟨r0, r1, r2, r3, r4, r5, r6, r7, r8, r9, r10, r11, r12, r13, r14, h0, h1, h2, h3, h4, h5, h6, h7, h8, h9, h10, h11, h12, h13, h14, fine, cs, ci, cz⟩ := partsO p0 p1 p2 p3 p4 p5 p6 p7 p8 p9 p10 p11 p12 p13 p14 o1 n1 x1 w HA.out
      have CS := Lib.hid cs
      have CI := Lib.hid ci
      have CZ := Lib.hid cz
      have nr : ∀ W, (binOp .neq 29 (.agg #[.int .i64 r0, .int .i64 r1, .int .i64 r2, .int .i64 r3, .int .i64 r4, .int .i64 r5, .int .i64 r6, .int .i64 r7, .int .i64 r8, .int .i64 r9, .int .i64 r10, .int .i64 r11, .int .i64 r12, .int .i64 r13, .int .i64 r14]) (.agg #[.int .i64 r0, .int .i64 r1, .int .i64 r2, .int .i64 r3, .int .i64 r4, .int .i64 r5, .int .i64 r6, .int .i64 r7, .int .i64 r8, .int .i64 r9, .int .i64 r10, .int .i64 r11, .int .i64 r12, .int .i64 r13, .int .i64 r14])).run Tryd.prog W = .ok (.bool false) W := fun W => (neArms_run r0 r1 r2 r3 r4 r5 r6 r7 r8 r9 r10 r11 r12 r13 r14 r0 r1 r2 r3 r4 r5 r6 r7 r8 r9 r10 r11 r12 r13 r14 W).trans (by simp)
      have nx : ∀ W, (binOp .neq 29 (.agg #[.int .i64 p0, .int .i64 p1, .int .i64 p2, .int .i64 p3, .int .i64 p4, .int .i64 p5, .int .i64 p6, .int .i64 p7, .int .i64 p8, .int .i64 p9, .int .i64 p10, .int .i64 p11, .int .i64 p12, .int .i64 p13, .int .i64 p14]) (.agg #[.int .i64 p0, .int .i64 p1, .int .i64 p2, .int .i64 p3, .int .i64 p4, .int .i64 p5, .int .i64 p6, .int .i64 p7, .int .i64 p8, .int .i64 p9, .int .i64 p10, .int .i64 p11, .int .i64 p12, .int .i64 p13, .int .i64 p14])).run Tryd.prog W = .ok (.bool false) W := fun W => (neArms_run p0 p1 p2 p3 p4 p5 p6 p7 p8 p9 p10 p11 p12 p13 p14 p0 p1 p2 p3 p4 p5 p6 p7 p8 p9 p10 p11 p12 p13 p14 W).trans (by simp)
      have NR := Lib.hid nr
      have NX := Lib.hid nx
      have eo : (fine != fine) = false := by cases fine <;> rfl
      have EO := Lib.hid eo
      clear cs ci cz nr nx eo
      have r_X := XX5.out.range
      go_wp2_with (first | (with_reducible refine isList ?_; refine ld15 11 w5.heap.size [.int .i64 p0, .int .i64 p1, .int .i64 p2, .int .i64 p3, .int .i64 p4, .int .i64 p5, .int .i64 p6, .int .i64 p7, .int .i64 p8, .int .i64 p9, .int .i64 p10, .int .i64 p11, .int .i64 p12, .int .i64 p13, .int .i64 p14] rfl rfl rfl rfl ?_ ?_; exact r_X))
      clear r_X
      obtain ⟨DX, hD⟩ : ∃ D, w5.heap.size = D := ⟨_, rfl⟩
      rw [hD] at XX5 ⊢
      clear hD
      generalize w5.alloc (.cells #[.int .i64 p0, .int .i64 p1, .int .i64 p2, .int .i64 p3, .int .i64 p4, .int .i64 p5, .int .i64 p6, .int .i64 p7, .int .i64 p8, .int .i64 p9, .int .i64 p10, .int .i64 p11, .int .i64 p12, .int .i64 p13, .int .i64 p14] 29 (0, 0)) = V5 at *
      refine (CI.out _ HB5.out).mono ?_
      rintro e w6 ⟨rfl, g_⟩
      have XX6 := Lib.hid ((XX5.out.below g_).alloc (.cells #[.int .i64 r0, .int .i64 r1, .int .i64 r2, .int .i64 r3, .int .i64 r4, .int .i64 r5, .int .i64 r6, .int .i64 r7, .int .i64 r8, .int .i64 r9, .int .i64 r10, .int .i64 r11, .int .i64 r12, .int .i64 r13, .int .i64 r14] 29 (0, 0)))
      have HB6 := Lib.hid ((HB5.out.trans (g_.mono HB5.out.size)).alloc (HB5.out.trans (g_.mono HB5.out.size)).size (.cells #[.int .i64 r0, .int .i64 r1, .int .i64 r2, .int .i64 r3, .int .i64 r4, .int .i64 r5, .int .i64 r6, .int .i64 r7, .int .i64 r8, .int .i64 r9, .int .i64 r10, .int .i64 r11, .int .i64 r12, .int .i64 r13, .int .i64 r14] 29 (0, 0)))
      clear g_ HB5 XX5
      have XY6 := Lib.hid (BoxF.new w6 [.int .i64 r0, .int .i64 r1, .int .i64 r2, .int .i64 r3, .int .i64 r4, .int .i64 r5, .int .i64 r6, .int .i64 r7, .int .i64 r8, .int .i64 r9, .int .i64 r10, .int .i64 r11, .int .i64 r12, .int .i64 r13, .int .i64 r14] 29)
      have r_X := XX6.out.range
      go_wp2_with (first | (with_reducible refine isList ?_; refine ld15 11 DX [.int .i64 p0, .int .i64 p1, .int .i64 p2, .int .i64 p3, .int .i64 p4, .int .i64 p5, .int .i64 p6, .int .i64 p7, .int .i64 p8, .int .i64 p9, .int .i64 p10, .int .i64 p11, .int .i64 p12, .int .i64 p13, .int .i64 p14] rfl rfl rfl rfl ?_ ?_; exact r_X))
      clear r_X
      obtain ⟨DY, hD⟩ : ∃ D, w6.heap.size = D := ⟨_, rfl⟩
      rw [hD] at XY6 ⊢
      clear hD
      generalize w6.alloc (.cells #[.int .i64 r0, .int .i64 r1, .int .i64 r2, .int .i64 r3, .int .i64 r4, .int .i64 r5, .int .i64 r6, .int .i64 r7, .int .i64 r8, .int .i64 r9, .int .i64 r10, .int .i64 r11, .int .i64 r12, .int .i64 r13, .int .i64 r14] 29 (0, 0)) = V6 at *
      refine (CS.out _).mono ?_
      rintro e w7 ⟨rfl, g_⟩
      have XX7 := Lib.hid ((XX6.out.below g_).alloc (.cells #[.int .i64 r0, .int .i64 r1, .int .i64 r2, .int .i64 r3, .int .i64 r4, .int .i64 r5, .int .i64 r6, .int .i64 r7, .int .i64 r8, .int .i64 r9, .int .i64 r10, .int .i64 r11, .int .i64 r12, .int .i64 r13, .int .i64 r14] 29 (0, 0)))
      have XY7 := Lib.hid ((XY6.out.below g_).alloc (.cells #[.int .i64 r0, .int .i64 r1, .int .i64 r2, .int .i64 r3, .int .i64 r4, .int .i64 r5, .int .i64 r6, .int .i64 r7, .int .i64 r8, .int .i64 r9, .int .i64 r10, .int .i64 r11, .int .i64 r12, .int .i64 r13, .int .i64 r14] 29 (0, 0)))
      have HB7 := Lib.hid ((HB6.out.trans (g_.mono HB6.out.size)).alloc (HB6.out.trans (g_.mono HB6.out.size)).size (.cells #[.int .i64 r0, .int .i64 r1, .int .i64 r2, .int .i64 r3, .int .i64 r4, .int .i64 r5, .int .i64 r6, .int .i64 r7, .int .i64 r8, .int .i64 r9, .int .i64 r10, .int .i64 r11, .int .i64 r12, .int .i64 r13, .int .i64 r14] 29 (0, 0)))
      clear g_ HB6 XX6 XY6
      have XQ7 := Lib.hid (BoxF.new w7 [.int .i64 r0, .int .i64 r1, .int .i64 r2, .int .i64 r3, .int .i64 r4, .int .i64 r5, .int .i64 r6, .int .i64 r7, .int .i64 r8, .int .i64 r9, .int .i64 r10, .int .i64 r11, .int .i64 r12, .int .i64 r13, .int .i64 r14] 29)
      have nr := NR.out
      have eo := EO.out
      have r_Y := XY7.out.range
      have r_Q := XQ7.out.range
      cases fine
      · as_aux_lemma =>
          go_wp2_with (first | (with_reducible refine isList ?_; refine ld15 15 DY [.int .i64 r0, .int .i64 r1, .int .i64 r2, .int .i64 r3, .int .i64 r4, .int .i64 r5, .int .i64 r6, .int .i64 r7, .int .i64 r8, .int .i64 r9, .int .i64 r10, .int .i64 r11, .int .i64 r12, .int .i64 r13, .int .i64 r14] rfl rfl rfl rfl ?_ ?_; exact r_Y) | (with_reducible refine isList ?_; refine ld15 17 w7.heap.size [.int .i64 r0, .int .i64 r1, .int .i64 r2, .int .i64 r3, .int .i64 r4, .int .i64 r5, .int .i64 r6, .int .i64 r7, .int .i64 r8, .int .i64 r9, .int .i64 r10, .int .i64 r11, .int .i64 r12, .int .i64 r13, .int .i64 r14] rfl rfl rfl rfl ?_ ?_; exact r_Q))
          clear r_Y r_Q nr eo
          refine (drawSimp_any a0 len0 cap0 _ (HRB.out.on HB7.out) hn).mono ?_
          rintro e w8 ⟨X, ax, cx, rfl, hX7, hX, g_⟩
          have HB8 := Lib.hid (HB7.out.trans (g_.mono HB7.out.size))
          clear g_ HB7
          have HX8 := Lib.hid hX
          have H7 := Lib.hid hX7
          clear hX hX7
          go_wp2_with fail
          refine (simplest_impl X X.length ax cx _ HX8.out (by have := H7.out; unfold maxLen; omega) (HA.out.below HB8.out)).mono ?_
          rintro e wa ⟨rfl, g_⟩
          have HXa := Lib.hid (HX8.out.below g_)
          have HBa := Lib.hid (HB8.out.trans (g_.mono HB8.out.size))
          clear g_ HX8 HB8
          go_wp2_with fail
          refine (simplest_spec X X.length ax cx _ HXa.out).mono ?_
          rintro e wb ⟨rfl, g_⟩
          have HXb := Lib.hid (HXa.out.below g_)
          have HBb := Lib.hid (HBa.out.trans (g_.mono HBa.out.size))
          clear g_ HXa HBa
          have e1 : (simpI X != simpI X) = false := by simp
          have e2 : (simpB X != simpB X) = false := by cases simpB X <;> rfl
          obtain ⟨b, hb⟩ : ∃ b, simpB X = b := ⟨_, rfl⟩
          obtain ⟨si, hsi⟩ : ∃ si, simpI X = si := ⟨_, rfl⟩
          rw [hb] at e2 ⊢
          rw [hsi] at e1 ⊢
          cases b
          · as_aux_lemma =>
              clear hb hsi
              by_cases h0 : 0 < X.length
              · have e3 : decide ((0 : Int) < (X.length : Int)) = true := decide_eq_true (by omega)
                go_wp2_with fail
                refine wp_loop_rounds 1 ?_
                rw [rounds_succ]
                go_wp2_with fail
                go_ret
                exact ⟨rfl, HBb.out⟩
              · have e3 : decide ((0 : Int) < (X.length : Int)) = false := decide_eq_false (by omega)
                go_wp2_with fail
                refine wp_loop_rounds 1 ?_
                rw [rounds_succ]
                go_wp2_with fail
                go_ret
                exact ⟨rfl, HBb.out⟩
          · as_aux_lemma =>
              have hall : X.all Arm.ok = true ∧ 1 ≤ X.length := by
                unfold simpB at hb
                have := of_decide_eq_true hb
                exact ⟨this.2.2, this.1⟩
              have hbest : si = ((bestN X X.length : Nat) : Int) := by
                rw [← hsi]
                unfold simpI
                rw [if_pos (of_decide_eq_true (show decide (1 ≤ X.length ∧ X.length ≤ 20 ∧ X.all Arm.ok = true) = true from hb))]
              have hbl : bestN X X.length < X.length := bestN_in (by omega) (Nat.le_refl _)
              obtain ⟨bt, hbt⟩ : ∃ bt, bestN X X.length = bt := ⟨_, rfl⟩
              have HMIN := Lib.hid (fun j (hj : j < X.length) => hbt ▸ bestN_min (X := X) (Nat.le_refl _) j hj)
              rw [hbt] at hbest hbl
              subst hbest
              obtain ⟨bx, ox, rfl, hbx, hcx⟩ := HXb.out.2 (by omega)
              have HC := Lib.hid hcx
              have HL := Lib.hid hall
              obtain ⟨Bt, hBt, _⟩ := atA_of_lt (X := X) rfl hbl
              have HBT := Lib.hid hBt
              clear hb hsi hbt hcx hall hBt HXb
              go_wp2_with fail
              go_loopw [28] (fun i wr => ∃ q : Nat, q ≤ X.length ∧ i = .int .i64 q ∧ Below wb.heap.size wb wr) (fun i _ => X.length - (intOf i).toNat)
              case atStart => exact ⟨0, by omega, rfl, Below.refl _ _⟩
              case round =>
                obtain ⟨q, hq, rfl, hw⟩ := hrel
                by_cases hlt : q < X.length
                · obtain ⟨A, hA, _⟩ := atA_of_lt (X := X) rfl hlt
                  have okA : A.ok = true := okA_at (k := X.length) hA hlt (by rw [List.take_length]; exact HL.out.1)
                  have okB : Bt.ok = true := okA_at (k := X.length) HBT.out hbl (by rw [List.take_length]; exact HL.out.1)
                  have hmin := HMIN.out q hlt
                  rw [getA hA, getA HBT.out] at hmin
                  have el : decide (A.lay < Bt.lay) = false := decide_eq_false (by omega)
                  have CA := Lib.hid (fun W (hb : Below w.heap.size w W) => layerCount_impl A.d A.l A.f A.s A.o A.n A.x A.c A.k A.a A.t A.c' A.k' A.a' A.t' W okA (HA.out.below hb))
                  have CB := Lib.hid (fun W (hb : Below w.heap.size w W) => layerCount_impl Bt.d Bt.l Bt.f Bt.s Bt.o Bt.n Bt.x Bt.c Bt.k Bt.a Bt.t Bt.c' Bt.k' Bt.a' Bt.t' W okB (HA.out.below hb))
                  have hbw := HBb.out.trans (hw.mono HBb.out.size)
                  have HBW := Lib.hid hbw
                  have HW := Lib.hid hw
                  have ka := rdA_cells (w := wr) (b := bx) (o := ox + q * 15) (A := A) (fun j z hz => (hw.cell (p := ⟨bx, ox + q * 15 + j, none⟩) hbx).trans (HC.out q A hA j z hz))
                  obtain ⟨x0, x1, x2, x3, x4, x5, x6, x7, x8, x9, x10, x11, x12, x13, x14⟩ := ka
                  have HQ := Lib.hid hlt
                  have HEL : Hid (decide (layN A.o (gNoB A.c A.k A.a A.t) (gNoB A.c' A.k' A.a' A.t') < layN Bt.o (gNoB Bt.c Bt.k Bt.a Bt.t) (gNoB Bt.c' Bt.k' Bt.a' Bt.t')) = false) := Lib.hid el
                  clear hA okA okB hmin el hbw hw
                  go_wp2_with fail
                  refine (CA.out _ HBW.out).mono ?_
                  rintro e wd ⟨rfl, g_⟩
                  clear x0 x1 x2 x3 x4 x5 x6 x7 x8 x9 x10 x11 x12 x13 x14
                  have HWd := Lib.hid (HW.out.trans (g_.mono HW.out.size))
                  have HBd := Lib.hid (HBW.out.trans (g_.mono HBW.out.size))
                  clear g_ HW HBW CA
                  have ka := rdA_cells (w := wd) (b := bx) (o := ox + bt * 15) (A := Bt) (fun j z hz => (HWd.out.cell (p := ⟨bx, ox + bt * 15 + j, none⟩) hbx).trans (HC.out bt Bt HBT.out j z hz))
                  obtain ⟨x0, x1, x2, x3, x4, x5, x6, x7, x8, x9, x10, x11, x12, x13, x14⟩ := ka
                  have e5 : (0 : Int) ≤ (bt : Int) := by omega
                  have e6 : (bt : Int) < (X.length : Int) := by omega
                  go_wp2_with fail
                  refine (CB.out _ HBd.out).mono ?_
                  rintro e we ⟨rfl, g_⟩
                  clear x0 x1 x2 x3 x4 x5 x6 x7 x8 x9 x10 x11 x12 x13 x14
                  have HWe := Lib.hid (HWd.out.trans (g_.mono HWd.out.size))
                  have el := HEL.out
                  have hq7 := HQ.out
                  have h7 := H7.out
                  clear g_ HWd HBd CB
                  go_wp2_with fail
                  go_roundw
                  case rel => exact ⟨q + 1, by omega, by go_num, HWe.out⟩
                  case measure => simp [intOf]; omega
                · go_wp2_with fail
                  go_ret
                  exact ⟨rfl, HBb.out.trans (hw.mono HBb.out.size)⟩
      · as_aux_lemma =>
          obtain ⟨cz1, cz2⟩ := CZ.out rfl
          have CZ1 := Lib.hid cz1
          have CZ2 := Lib.hid cz2
          clear cz1 cz2
          have b_ := XX7.out
          obtain ⟨X_0, X_1, X_2, X_3, X_4, X_5, X_6, X_7, X_8, X_9, X_10, X_11, X_12, X_13, X_14, X_f⟩ := b_.fifteen
          clear b_
          go_wp2_with (first | (with_reducible refine isList ?_; refine ld15 15 DY [.int .i64 r0, .int .i64 r1, .int .i64 r2, .int .i64 r3, .int .i64 r4, .int .i64 r5, .int .i64 r6, .int .i64 r7, .int .i64 r8, .int .i64 r9, .int .i64 r10, .int .i64 r11, .int .i64 r12, .int .i64 r13, .int .i64 r14] rfl rfl rfl rfl ?_ ?_; exact r_Y) | (with_reducible refine isList ?_; refine ld15 17 w7.heap.size [.int .i64 r0, .int .i64 r1, .int .i64 r2, .int .i64 r3, .int .i64 r4, .int .i64 r5, .int .i64 r6, .int .i64 r7, .int .i64 r8, .int .i64 r9, .int .i64 r10, .int .i64 r11, .int .i64 r12, .int .i64 r13, .int .i64 r14] rfl rfl rfl rfl ?_ ?_; exact r_Q))
          clear r_Y r_Q X_0 X_1 X_2 X_3 X_4 X_5 X_6 X_7 X_8 X_9 X_10 X_11 X_12 X_13 X_14 X_f
          clear nr eo
          obtain ⟨DQ, hD⟩ : ∃ D, w7.heap.size = D := ⟨_, rfl⟩
          rw [hD] at XQ7 ⊢
          clear hD
          generalize w7.alloc (.cells #[.int .i64 r0, .int .i64 r1, .int .i64 r2, .int .i64 r3, .int .i64 r4, .int .i64 r5, .int .i64 r6, .int .i64 r7, .int .i64 r8, .int .i64 r9, .int .i64 r10, .int .i64 r11, .int .i64 r12, .int .i64 r13, .int .i64 r14] 29 (0, 0)) = V7 at *
          refine (CZ1.out _ HB7.out).mono ?_
          rintro e w8 ⟨rfl, g_⟩
          have XX8 := Lib.hid ((XX7.out.below g_).alloc (.cells #[.int .i64 h0, .int .i64 h1, .int .i64 h2, .int .i64 h3, .int .i64 h4, .int .i64 h5, .int .i64 h6, .int .i64 h7, .int .i64 h8, .int .i64 h9, .int .i64 h10, .int .i64 h11, .int .i64 h12, .int .i64 h13, .int .i64 h14] 29 (0, 0)))
          have XY8 := Lib.hid ((XY7.out.below g_).alloc (.cells #[.int .i64 h0, .int .i64 h1, .int .i64 h2, .int .i64 h3, .int .i64 h4, .int .i64 h5, .int .i64 h6, .int .i64 h7, .int .i64 h8, .int .i64 h9, .int .i64 h10, .int .i64 h11, .int .i64 h12, .int .i64 h13, .int .i64 h14] 29 (0, 0)))
          have XQ8 := Lib.hid ((XQ7.out.below g_).alloc (.cells #[.int .i64 h0, .int .i64 h1, .int .i64 h2, .int .i64 h3, .int .i64 h4, .int .i64 h5, .int .i64 h6, .int .i64 h7, .int .i64 h8, .int .i64 h9, .int .i64 h10, .int .i64 h11, .int .i64 h12, .int .i64 h13, .int .i64 h14] 29 (0, 0)))
          have HB8 := Lib.hid ((HB7.out.trans (g_.mono HB7.out.size)).alloc (HB7.out.trans (g_.mono HB7.out.size)).size (.cells #[.int .i64 h0, .int .i64 h1, .int .i64 h2, .int .i64 h3, .int .i64 h4, .int .i64 h5, .int .i64 h6, .int .i64 h7, .int .i64 h8, .int .i64 h9, .int .i64 h10, .int .i64 h11, .int .i64 h12, .int .i64 h13, .int .i64 h14] 29 (0, 0)))
          clear g_ HB7 XX7 XY7 XQ7
          have XZ8 := Lib.hid (BoxF.new w8 [.int .i64 h0, .int .i64 h1, .int .i64 h2, .int .i64 h3, .int .i64 h4, .int .i64 h5, .int .i64 h6, .int .i64 h7, .int .i64 h8, .int .i64 h9, .int .i64 h10, .int .i64 h11, .int .i64 h12, .int .i64 h13, .int .i64 h14] 29)
          have r_Z := XZ8.out.range
          have b_ := XX8.out
          obtain ⟨X_0, X_1, X_2, X_3, X_4, X_5, X_6, X_7, X_8, X_9, X_10, X_11, X_12, X_13, X_14, X_f⟩ := b_.fifteen
          clear b_
          go_wp2_with (first | (with_reducible refine isList ?_; refine ld15 19 w8.heap.size [.int .i64 h0, .int .i64 h1, .int .i64 h2, .int .i64 h3, .int .i64 h4, .int .i64 h5, .int .i64 h6, .int .i64 h7, .int .i64 h8, .int .i64 h9, .int .i64 h10, .int .i64 h11, .int .i64 h12, .int .i64 h13, .int .i64 h14] rfl rfl rfl rfl ?_ ?_; exact r_Z))
          clear r_Z X_0 X_1 X_2 X_3 X_4 X_5 X_6 X_7 X_8 X_9 X_10 X_11 X_12 X_13 X_14 X_f
          obtain ⟨DZ, hD⟩ : ∃ D, w8.heap.size = D := ⟨_, rfl⟩
          rw [hD] at XZ8 ⊢
          clear hD
          generalize w8.alloc (.cells #[.int .i64 h0, .int .i64 h1, .int .i64 h2, .int .i64 h3, .int .i64 h4, .int .i64 h5, .int .i64 h6, .int .i64 h7, .int .i64 h8, .int .i64 h9, .int .i64 h10, .int .i64 h11, .int .i64 h12, .int .i64 h13, .int .i64 h14] 29 (0, 0)) = V8 at *
          refine (CZ2.out _ HB8.out).mono ?_
          rintro e w9 ⟨rfl, g_⟩
          have XX9 := Lib.hid ((XX8.out.below g_).alloc (.cells #[.int .i64 p0, .int .i64 p1, .int .i64 p2, .int .i64 p3, .int .i64 p4, .int .i64 p5, .int .i64 p6, .int .i64 p7, .int .i64 p8, .int .i64 p9, .int .i64 p10, .int .i64 p11, .int .i64 p12, .int .i64 p13, .int .i64 p14] 29 (0, 0)))
          have XY9 := Lib.hid ((XY8.out.below g_).alloc (.cells #[.int .i64 p0, .int .i64 p1, .int .i64 p2, .int .i64 p3, .int .i64 p4, .int .i64 p5, .int .i64 p6, .int .i64 p7, .int .i64 p8, .int .i64 p9, .int .i64 p10, .int .i64 p11, .int .i64 p12, .int .i64 p13, .int .i64 p14] 29 (0, 0)))
          have XQ9 := Lib.hid ((XQ8.out.below g_).alloc (.cells #[.int .i64 p0, .int .i64 p1, .int .i64 p2, .int .i64 p3, .int .i64 p4, .int .i64 p5, .int .i64 p6, .int .i64 p7, .int .i64 p8, .int .i64 p9, .int .i64 p10, .int .i64 p11, .int .i64 p12, .int .i64 p13, .int .i64 p14] 29 (0, 0)))
          have XZ9 := Lib.hid ((XZ8.out.below g_).alloc (.cells #[.int .i64 p0, .int .i64 p1, .int .i64 p2, .int .i64 p3, .int .i64 p4, .int .i64 p5, .int .i64 p6, .int .i64 p7, .int .i64 p8, .int .i64 p9, .int .i64 p10, .int .i64 p11, .int .i64 p12, .int .i64 p13, .int .i64 p14] 29 (0, 0)))
          have HB9 := Lib.hid ((HB8.out.trans (g_.mono HB8.out.size)).alloc (HB8.out.trans (g_.mono HB8.out.size)).size (.cells #[.int .i64 p0, .int .i64 p1, .int .i64 p2, .int .i64 p3, .int .i64 p4, .int .i64 p5, .int .i64 p6, .int .i64 p7, .int .i64 p8, .int .i64 p9, .int .i64 p10, .int .i64 p11, .int .i64 p12, .int .i64 p13, .int .i64 p14] 29 (0, 0)))
          clear g_ HB8 XX8 XY8 XQ8 XZ8
          have XK9 := Lib.hid (BoxF.new w9 [.int .i64 p0, .int .i64 p1, .int .i64 p2, .int .i64 p3, .int .i64 p4, .int .i64 p5, .int .i64 p6, .int .i64 p7, .int .i64 p8, .int .i64 p9, .int .i64 p10, .int .i64 p11, .int .i64 p12, .int .i64 p13, .int .i64 p14] 29)
          have nx := NX.out
          have b_ := XK9.out
          obtain ⟨K_0, K_1, K_2, K_3, K_4, K_5, K_6, K_7, K_8, K_9, K_10, K_11, K_12, K_13, K_14, K_f⟩ := b_.fifteen
          clear b_
          have b_ := XX9.out
          obtain ⟨X_0, X_1, X_2, X_3, X_4, X_5, X_6, X_7, X_8, X_9, X_10, X_11, X_12, X_13, X_14, X_f⟩ := b_.fifteen
          clear b_
          go_wp2_with fail
          clear K_0 K_1 K_2 K_3 K_4 K_5 K_6 K_7 K_8 K_9 K_10 K_11 K_12 K_13 K_14 K_f X_0 X_1 X_2 X_3 X_4 X_5 X_6 X_7 X_8 X_9 X_10 X_11 X_12 X_13 X_14 X_f
          clear nx
          refine (drawSimp_any a0 len0 cap0 _ (HRB.out.on HB9.out) hn).mono ?_
          rintro e w10 ⟨X, ax, cx, rfl, hX7, hX, g_⟩
          have HB10 := Lib.hid (HB9.out.trans (g_.mono HB9.out.size))
          clear g_ HB9
          have HX10 := Lib.hid hX
          have H7 := Lib.hid hX7
          clear hX hX7
          go_wp2_with fail
          refine (simplest_impl X X.length ax cx _ HX10.out (by have := H7.out; unfold maxLen; omega) (HA.out.below HB10.out)).mono ?_
          rintro e wa ⟨rfl, g_⟩
          have HXa := Lib.hid (HX10.out.below g_)
          have HBa := Lib.hid (HB10.out.trans (g_.mono HB10.out.size))
          clear g_ HX10 HB10
          go_wp2_with fail
          refine (simplest_spec X X.length ax cx _ HXa.out).mono ?_
          rintro e wb ⟨rfl, g_⟩
          have HXb := Lib.hid (HXa.out.below g_)
          have HBb := Lib.hid (HBa.out.trans (g_.mono HBa.out.size))
          clear g_ HXa HBa
          have e1 : (simpI X != simpI X) = false := by simp
          have e2 : (simpB X != simpB X) = false := by cases simpB X <;> rfl
          obtain ⟨b, hb⟩ : ∃ b, simpB X = b := ⟨_, rfl⟩
          obtain ⟨si, hsi⟩ : ∃ si, simpI X = si := ⟨_, rfl⟩
          rw [hb] at e2 ⊢
          rw [hsi] at e1 ⊢
          cases b
          · as_aux_lemma =>
              clear hb hsi
              by_cases h0 : 0 < X.length
              · have e3 : decide ((0 : Int) < (X.length : Int)) = true := decide_eq_true (by omega)
                go_wp2_with fail
                refine wp_loop_rounds 1 ?_
                rw [rounds_succ]
                go_wp2_with fail
                go_ret
                exact ⟨rfl, HBb.out⟩
              · have e3 : decide ((0 : Int) < (X.length : Int)) = false := decide_eq_false (by omega)
                go_wp2_with fail
                refine wp_loop_rounds 1 ?_
                rw [rounds_succ]
                go_wp2_with fail
                go_ret
                exact ⟨rfl, HBb.out⟩
          · as_aux_lemma =>
              have hall : X.all Arm.ok = true ∧ 1 ≤ X.length := by
                unfold simpB at hb
                have := of_decide_eq_true hb
                exact ⟨this.2.2, this.1⟩
              have hbest : si = ((bestN X X.length : Nat) : Int) := by
                rw [← hsi]
                unfold simpI
                rw [if_pos (of_decide_eq_true (show decide (1 ≤ X.length ∧ X.length ≤ 20 ∧ X.all Arm.ok = true) = true from hb))]
              have hbl : bestN X X.length < X.length := bestN_in (by omega) (Nat.le_refl _)
              obtain ⟨bt, hbt⟩ : ∃ bt, bestN X X.length = bt := ⟨_, rfl⟩
              have HMIN := Lib.hid (fun j (hj : j < X.length) => hbt ▸ bestN_min (X := X) (Nat.le_refl _) j hj)
              rw [hbt] at hbest hbl
              subst hbest
              obtain ⟨bx, ox, rfl, hbx, hcx⟩ := HXb.out.2 (by omega)
              have HC := Lib.hid hcx
              have HL := Lib.hid hall
              obtain ⟨Bt, hBt, _⟩ := atA_of_lt (X := X) rfl hbl
              have HBT := Lib.hid hBt
              clear hb hsi hbt hcx hall hBt HXb
              go_wp2_with fail
              go_loopw [28] (fun i wr => ∃ q : Nat, q ≤ X.length ∧ i = .int .i64 q ∧ Below wb.heap.size wb wr) (fun i _ => X.length - (intOf i).toNat)
              case atStart => exact ⟨0, by omega, rfl, Below.refl _ _⟩
              case round =>
                obtain ⟨q, hq, rfl, hw⟩ := hrel
                by_cases hlt : q < X.length
                · obtain ⟨A, hA, _⟩ := atA_of_lt (X := X) rfl hlt
                  have okA : A.ok = true := okA_at (k := X.length) hA hlt (by rw [List.take_length]; exact HL.out.1)
                  have okB : Bt.ok = true := okA_at (k := X.length) HBT.out hbl (by rw [List.take_length]; exact HL.out.1)
                  have hmin := HMIN.out q hlt
                  rw [getA hA, getA HBT.out] at hmin
                  have el : decide (A.lay < Bt.lay) = false := decide_eq_false (by omega)
                  have CA := Lib.hid (fun W (hb : Below w.heap.size w W) => layerCount_impl A.d A.l A.f A.s A.o A.n A.x A.c A.k A.a A.t A.c' A.k' A.a' A.t' W okA (HA.out.below hb))
                  have CB := Lib.hid (fun W (hb : Below w.heap.size w W) => layerCount_impl Bt.d Bt.l Bt.f Bt.s Bt.o Bt.n Bt.x Bt.c Bt.k Bt.a Bt.t Bt.c' Bt.k' Bt.a' Bt.t' W okB (HA.out.below hb))
                  have hbw := HBb.out.trans (hw.mono HBb.out.size)
                  have HBW := Lib.hid hbw
                  have HW := Lib.hid hw
                  have ka := rdA_cells (w := wr) (b := bx) (o := ox + q * 15) (A := A) (fun j z hz => (hw.cell (p := ⟨bx, ox + q * 15 + j, none⟩) hbx).trans (HC.out q A hA j z hz))
                  obtain ⟨x0, x1, x2, x3, x4, x5, x6, x7, x8, x9, x10, x11, x12, x13, x14⟩ := ka
                  have HQ := Lib.hid hlt
                  have HEL : Hid (decide (layN A.o (gNoB A.c A.k A.a A.t) (gNoB A.c' A.k' A.a' A.t') < layN Bt.o (gNoB Bt.c Bt.k Bt.a Bt.t) (gNoB Bt.c' Bt.k' Bt.a' Bt.t')) = false) := Lib.hid el
                  clear hA okA okB hmin el hbw hw
                  go_wp2_with fail
                  refine (CA.out _ HBW.out).mono ?_
                  rintro e wd ⟨rfl, g_⟩
                  clear x0 x1 x2 x3 x4 x5 x6 x7 x8 x9 x10 x11 x12 x13 x14
                  have HWd := Lib.hid (HW.out.trans (g_.mono HW.out.size))
                  have HBd := Lib.hid (HBW.out.trans (g_.mono HBW.out.size))
                  clear g_ HW HBW CA
                  have ka := rdA_cells (w := wd) (b := bx) (o := ox + bt * 15) (A := Bt) (fun j z hz => (HWd.out.cell (p := ⟨bx, ox + bt * 15 + j, none⟩) hbx).trans (HC.out bt Bt HBT.out j z hz))
                  obtain ⟨x0, x1, x2, x3, x4, x5, x6, x7, x8, x9, x10, x11, x12, x13, x14⟩ := ka
                  have e5 : (0 : Int) ≤ (bt : Int) := by omega
                  have e6 : (bt : Int) < (X.length : Int) := by omega
                  go_wp2_with fail
                  refine (CB.out _ HBd.out).mono ?_
                  rintro e we ⟨rfl, g_⟩
                  clear x0 x1 x2 x3 x4 x5 x6 x7 x8 x9 x10 x11 x12 x13 x14
                  have HWe := Lib.hid (HWd.out.trans (g_.mono HWd.out.size))
                  have el := HEL.out
                  have hq7 := HQ.out
                  have h7 := H7.out
                  clear g_ HWd HBd CB
                  go_wp2_with fail
                  go_roundw
                  case rel => exact ⟨q + 1, by omega, by go_num, HWe.out⟩
                  case measure => simp [intOf]; omega
                · go_wp2_with fail
                  go_ret
                  exact ⟨rfl, HBb.out.trans (hw.mono HBb.out.size)⟩

/-! ### THE ROW's STEP: WRITTEN OUT: LEAVE IT -/
set_option maxRecDepth 100000 in
theorem lifted (os : Os) (started : os.Started) (H : Type) (enc : TypeId × Value → H) :
    ReturnsInHanded {} Tryd.checked os 4 .any (fun w args => (Rows.fnArmsPartsSpec.pre enc Tryd.prog Tryd.f4 Rows.fnArmsPartsRow.domain false w args ∧ laidMetH Tryd.prog laidL w) ∧ sizedMet enc Tryd.prog Tryd.f4 (OpenSpec.ofChange Rows.fnArmsPartsSpec) false w args)
      (Rows.fnArmsPartsSpec.post enc Tryd.prog Tryd.f4 false true false false) := by
  refine returnsInHanded_of_change_and (C := Tryd.checked) (X := fun w _ => laidMetH Tryd.prog laidL w) (fun _ _ _ hh h => h.of_heap hh) own started (by kernel_rfl) Tryd.func4
    (ChangeSpec.witness_shaped (enc := enc) (C := Tryd.checked) (os := os) (X := fun w _ => laidMetH Tryd.prog laidL w) false (World.doorLaid Tryd.prog 400 os) #[.slice none 0 0] 8 rfl (World.shaped_of_RefB (by kernel_rfl) (by kernel_rfl)) (by kernel_rfl) (by kernel_rfl) (by kernel_rfl) (door_met os _)) ?_
  intro W base args ds gs before hval0 hW _ hsz0 hL _
  have hval : ∀ (j : Nat) t v, Tryd.f4.params[j]? = some t → args[j]? = some v → Value.okWide Tryd.prog W .any base t v := hval0
  have hW' := hW
  obtain ⟨p, q, hA0, hV, rfl, hfz, hnd⟩ := hW
  have hA : DataW.TrodAll enc Tryd.prog W 0 (fun _ => true) true Tryd.f4.params.toList args.toList ds p := hA0
  rw [Tryd.params4] at hA hval
  obtain ⟨v0, vs0, d0, ds0, p0, q0, hargs, rfl, rfl, h0, r0⟩ := trodAll_cons hA
  obtain ⟨rfl, rfl, rfl⟩ := trodAll_nil r0
  obtain rfl : args = #[v0] := by cases args; simp_all
  obtain ⟨gv, tv, csv, fuelv, dv, pv, hgs, _⟩ := trodVars_one hV
  subst hgs
  obtain ⟨a0, len0, cap0, rfl⟩ := okWide_slice Tryd.underlying22 (hval 0 22 v0 rfl rfl)
  have k0 := h0
  have lt0 : ∀ x ∈ p0, x.block < W.heap.size := by obtain ⟨m, hm⟩ := k0; exact DataW.trod_lt m _ _ _ hm
  obtain ⟨z0, w0⟩ : ∃ zs, IsRow .u8 W a0 len0 cap0 zs := by
    obtain ⟨fuel, hf⟩ := h0
    rcases open_ints Tryd.underlying22 Tryd.underlying5 (by kernel_rfl) hf with ⟨hcs, _⟩ | ⟨x, l, c, zs, hcs, _, hl, hm, hz, _, hcell, hwz⟩
    · simp [Value.cells] at hcs
      obtain ⟨rfl, rfl, rfl⟩ := hcs
      exact ⟨[], .inl ⟨rfl, rfl, rfl, rfl⟩⟩
    · simp [Value.cells] at hcs
      obtain ⟨rfl, rfl, rfl⟩ := hcs
      exact ⟨zs, .inr ⟨_, rfl, hl, hm, by simpa using hz, hcell, hwz⟩⟩
  clear hA0 hval0
  refine (walk a0 len0 cap0 z0 W w0 hL).mono fun e W' ⟨he, bel⟩ => ?_
  subst he
  exact ⟨_, rfl, _, _, _, [], _, q, hW', trodAll_mk1 (shut_bool Tryd.underlying4 _), (trodAll_cons_mk (Below.trod laidOut (by kernel_rfl) (of_decide_eq_true (by kernel_rfl)) k0 bel lt0) trodAll_mk0), Below.trodVars (by kernel_rfl) bel (by kernel_rfl) hV, bel.frame _, fun h => by cases h⟩

theorem over : Rows.fnArmsPartsRow.holds Tryd.pinned (OpenSpec.ofChange Rows.fnArmsPartsSpec) :=
  OpenClaim.holds_of_wide 4 Tryd.f4 rfl rfl rfl rfl rfl rfl rfl ⟨rfl, rfl, rfl, rfl, rfl⟩ rfl rfl rfl rfl rfl (by kernel_rfl) Tryd.func4 (by kernel_rfl)
    (of_decide_eq_true (by kernel_rfl)) (by unfold Func.isWrapper; first | (rw [if_pos (by decide +kernel)]; kernel_rfl) | (rw [if_neg (by decide +kernel)]; exact ⟨rfl, rfl⟩))
    (fun os started H enc _ => lifted os started H enc)

/-- The row's statement. -/
theorem proved : Rows.FnArmsPartsSaid :=
  over

/-- THE TIED CARD: the listed variables are those that the program's own text lays. -/
theorem card : Rows.FnArmsPartsCardSaid :=
  Claim7.holds_tied_plain_at .later [] [.widerDeep] true (true, "a5281958ad2c598ba43efa1fa3093ed376ad2bf3509d44a09e19c35f0c5ef7c0") false
    proved (fun _ h => by cases h) (by kernel_rfl) (fun _ h => by cases h) fnArmsParts_row_tie rfl ⟨rfl, rfl⟩ (by kernel_rfl) rfl
    (fun f fn hf hfn => by
      obtain rfl : f = 4 := Option.some.inj ((show Tryd.prog.funcNamed "loop.example/g00884/laws.FnArmsParts" = some 4 by kernel_rfl).symm.trans hf) |>.symm
      obtain rfl : fn = Tryd.f4 := (Option.some.inj (Tryd.func4.symm.trans hfn)).symm
      exact ⟨by kernel_rfl, fun j t ht => by
        rw [Tryd.params4] at ht
        have hm : t ∈ [22] := by
          have := Array.mem_of_getElem? ht
          first | simpa using this | (simp at this ⊢; omega) | (simp at this ⊢; rcases this with h | h <;> simp [h])
        have hall : ([22].all fun u => !Tryd.prog.wantsStandIn u) = true := by kernel_rfl
        exact (show Tryd.prog.wantsStandIn t = false by simpa using List.all_eq_true.1 hall t hm)⟩)
    (by kernel_rfl)
#print axioms card
end Go.Proofs.YtpcghkciibbmgaaDoor.fnArmsParts
