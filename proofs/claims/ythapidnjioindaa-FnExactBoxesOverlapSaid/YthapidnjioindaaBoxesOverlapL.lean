/- FnExactBoxesOverlap: at every slice of boxes the law returns true: BoxesOverlap of the program answers as its model does, and leaves the slice as it is. No condition. -/
import Derived.Test.YthapidnjioindaaRows
import Derived.WalkKit
import Derived.ProofKit
import Derived.OpenShut
import Derived.ShutString
import Derived.Test.YthapidnjioindaaC11BA
import Derived.ChangeOld
import Derived.Below
namespace Go.Proofs.Ythapidnjioindaa.fnExactBoxesOverlap
open Go.ChangeShapes Go.WideShapes Go.ChangeAt Go.RowKit
open Go.ChangeMaps (open_string shut_string)
set_option linter.unusedVariables false

theorem own : ownKnob Try.prog.godebug = none := by kernel_rfl
theorem laidOut : laidOutB Try.prog = true := by kernel_rfl

/-- WHAT THE WALK IS TOLD OF A SLICE OF INTEGERS THAT CAME IN: it is nil; or it leads to a row of 'cap' cells, the numbers 'zs' (the first 'len' are its elements, the rest its spare room), each fitting its kind. -/
def IsRow (k : IntKind) (w : World) (a : Option Addr) (len cap : Nat) (zs : List Int) : Prop :=
  (a = none ∧ len = 0 ∧ cap = 0 ∧ zs = []) ∨
  ∃ x, a = some x ∧ len ≤ cap ∧ cap ≤ maxLen ∧ zs.length = cap ∧ (∀ i, i < zs.length → w.cell? (x.add i) = some (.int k (zs.getD i 0))) ∧ ∀ n ∈ zs, (Lit.int k n).wf = true

/-! ### STEP 1: THE WALK: the Go text returns true, AND WRITES NOTHING THAT WAS THERE: 'Below w.heap.size w w'' (Derived/Below.lean: '.refl', '.alloc', '.drew', '.setCell' at a new block, '.trans'). Open each 'IsRow' by 'rcases' AHEAD of 'go_enter'; part every test ahead of the walk. -/
set_option maxHeartbeats 8000000 in
set_option maxRecDepth 100000 in
theorem walk (a0 : Option Addr) (len0 cap0 : Nat) (z0 : List Bx) (w : World) (w0 : IsBxs w a0 len0 cap0 z0) :
    Calls Try.prog 5 #[.slice a0 len0 cap0] w fun e w' => e = .returned (.bool true) ∧ Below w.heap.size w w' := by
  obtain ⟨hR, hm⟩ := w0
  by_cases hn : len0 ≤ 1048576
  · have e1 : decide (1048576 - (len0 : Int) < 0) = false := by simp; omega
    have CT := Lib.hid (fun W (h : RdBx W a0 len0 z0) => toBoxS_any z0 len0 a0 cap0 W h hn)
    have cs := fun (g : Nat) W (h : RdBx W (some ⟨g, 0, none⟩) len0 z0) => overlap_spec z0 g 0 len0 len0 W h (by omega)
    have ci := fun (g : Nat) W (h : RdBx W (some ⟨g, 0, none⟩) len0 z0) => overlap_impl z0 g 0 len0 len0 W h (by omega)
    generalize (okX z0 && overX z0) = r at *
    generalize okX z0 = s at *
    have er : (r != r) = false := by simp
    have es : (s != s) = false := by simp
    have CS := Lib.hid cs
    have CI := Lib.hid ci
    have CQ := Lib.hid (fun (g g' : Nat) W (h : RdBx W (some ⟨g, 0, none⟩) len0 z0) (h' : RdBx W (some ⟨g', 0, none⟩) len0 z0) => eqBoxS_true z0 len0 (some ⟨g, 0, none⟩) (some ⟨g', 0, none⟩) len0 len0 W h h' (by omega))
    have HR := Lib.hid hR
    clear cs ci hR
    go_enter Try.func5, Try.ntmps5
    go_wp2_with fail
    refine (szBox_any len0 a0 cap0 _ hn).mono ?_
    rintro e w' ⟨rfl, rfl⟩
    go_wp2_with fail
    refine (CT.out _ HR.out).mono ?_
    rintro e w1 ⟨g1, rfl, r1, b1⟩
    have R1 := Lib.hid r1
    have B1 := Lib.hid b1
    clear r1 b1
    go_wp2_with fail
    refine (CS.out g1 _ R1.out).mono ?_
    rintro e w2 ⟨rfl, b2⟩
    have B2 := Lib.hid (B1.out.trans (b2.mono B1.out.size))
    clear b2 R1 B1
    go_wp2_with fail
    refine (CT.out _ (HR.out.below B2.out)).mono ?_
    rintro e w3 ⟨g3, rfl, r3, b3⟩
    have R3 := Lib.hid r3
    have B3 := Lib.hid (B2.out.trans (b3.mono B2.out.size))
    clear r3 b3 B2
    go_wp2_with fail
    refine (CI.out g3 _ R3.out).mono ?_
    rintro e w4 ⟨rfl, b4⟩
    have R4 := Lib.hid (R3.out.below b4)
    have B4 := Lib.hid (B3.out.trans (b4.mono B3.out.size))
    clear b4 R3 B3
    go_wp2_with fail
    refine (CT.out _ (HR.out.below B4.out)).mono ?_
    rintro e w5 ⟨g5, rfl, r5, b5⟩
    have R5 := Lib.hid r5
    have R6 := Lib.hid (R4.out.below b5)
    have B5 := Lib.hid (B4.out.trans (b5.mono B4.out.size))
    clear r5 b5 R4 B4
    go_wp2_with fail
    refine (CQ.out g3 g5 _ R6.out R5.out).mono ?_
    rintro e w6 ⟨rfl, b6⟩
    have B6 := Lib.hid (B5.out.trans (b6.mono B5.out.size))
    clear b6 B5
    go_wp2_with fail
    go_ret
    exact ⟨rfl, B6.out⟩
  · clear hR
    go_enter Try.func5, Try.ntmps5
    go_wp2_with fail
    refine (szBox_big len0 a0 cap0 _ (by omega) hm).mono ?_
    rintro e w' ⟨rfl, rfl⟩
    go_wp2_with fail
    go_ret
    exact ⟨rfl, Below.refl _ _⟩

/-! ### THE ROW's STEP: WRITTEN OUT: LEAVE IT -/
set_option maxRecDepth 100000 in
theorem lifted (os : Os) (started : os.Started) (H : Type) (enc : TypeId × Value → H) :
    ReturnsInHanded {} Try.checked os 5 .any (Rows.fnExactBoxesOverlapSpec.pre6 enc Try.prog Try.f5 Rows.fnExactBoxesOverlapRow.domain false) (Rows.fnExactBoxesOverlapSpec.post enc Try.prog Try.f5 false true false false) := by
  refine returnsInHanded_of_change (C := Try.checked) own started (by kernel_rfl) Try.func5
    (ChangeSpec.witness6 (enc := enc) (C := Try.checked) false ⟨#[], #[.slice none 0 0], []⟩ 8 (by kernel_rfl) (by kernel_rfl) (by kernel_rfl) (by kernel_rfl)) ?_
  intro W base args ds gs before hval0 hW hcnd _
  have hval : ∀ (j : Nat) t v, Try.f5.params[j]? = some t → args[j]? = some v → Value.okWide Try.prog W .any base t v := hval0
  have hW' := hW
  obtain ⟨p, q, hA0, hV, rfl, hfz, hnd⟩ := hW
  have hA : DataW.TrodAll enc Try.prog W 0 (fun _ => true) true Try.f5.params.toList args.toList ds p := hA0
  rw [Try.params5] at hA hval
  obtain ⟨v0, vs0, d0, ds0, p0, q0, hargs, rfl, rfl, h0, r0⟩ := trodAll_cons hA
  obtain ⟨rfl, rfl, rfl⟩ := trodAll_nil r0
  obtain rfl : args = #[v0] := by cases args; simp_all
  obtain ⟨rfl, rfl⟩ := trodVars_none hV
  obtain ⟨a0, len0, cap0, rfl⟩ := okWide_slice Try.underlying38 (hval 0 38 v0 rfl rfl)
  have k0 := h0
  have lt0 : ∀ x ∈ p0, x.block < W.heap.size := by obtain ⟨m, hm⟩ := k0; exact DataW.trod_lt m _ _ _ hm
  obtain ⟨z0, w0⟩ : ∃ zs, IsBxs W a0 len0 cap0 zs := open_bxs Try.underlying38 (by kernel_rfl) (by kernel_rfl) h0
  clear hA0 hval0
  refine (walk a0 len0 cap0 z0 W w0).mono fun e W' ⟨he, bel⟩ => ?_
  subst he
  exact ⟨_, rfl, _, _, _, [], _, [], hW', trodAll_mk1 (shut_bool Try.underlying4 _), (trodAll_cons_mk (Below.trod laidOut (by kernel_rfl) (of_decide_eq_true (by kernel_rfl)) k0 bel lt0) trodAll_mk0), rfl, bel.frame _, fun h => by cases h⟩

theorem over : Rows.fnExactBoxesOverlapRow.holds Try.pinned (OpenSpec.ofChange Rows.fnExactBoxesOverlapSpec) :=
  OpenClaim.holds_of_wide 5 Try.f5 rfl rfl rfl rfl rfl rfl rfl ⟨rfl, rfl, rfl, rfl, rfl⟩ rfl rfl rfl rfl rfl (by kernel_rfl) Try.func5 (by kernel_rfl)
    (of_decide_eq_true (by kernel_rfl)) (by unfold Func.isWrapper; first | (rw [if_pos (by decide +kernel)]; kernel_rfl) | (rw [if_neg (by decide +kernel)]; exact ⟨rfl, rfl⟩))
    (fun os started H enc _ => lifted os started H enc)

/-- ████ THE STATEMENT ████ -/
theorem proved : Rows.FnExactBoxesOverlapSaid := over
#print axioms proved
end Go.Proofs.Ythapidnjioindaa.fnExactBoxesOverlap
