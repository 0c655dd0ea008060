/- FnExactSwungCells: at every field, valid or not, the law returns true: SwungCells of the program answers as its model does, in memory of its own. The card ties the table of offsets to the program's text. No condition. -/
import Derived.Test.YtkhpgggaaldhhaaDoorRows
import Derived.Test.YtkhpgggaaldhhaaDoorCards
import Derived.Test.YtkhpgggaaldhhaaDoorTie
import Derived.WalkKit
import Derived.ProofKit
import Derived.OpenShut
import Derived.ShutString
import Derived.Test.YtkhpgggaaldhhaaDoorC9L
import Derived.Test.YtkhpgggaaldhhaaDoorC10T
import Derived.LaidMore
import Derived.Stop.Joined
import Derived.SevenTiedAt
import Derived.OpenVars
import Derived.ChangeVars
import Derived.Below
import Derived.Test.YtkhpgggaaldhhaaDoorFlat
namespace Go.Proofs.YtkhpgggaaldhhaaDoor.fnExactSwungCells
open Go.ChangeShapes Go.WideShapes Go.ChangeAt Go.RowKit
open Go.ChangeMaps (open_string shut_string)
set_option linter.unusedVariables false      -- a walk need not use every 'w<i>' (that an integer argument fits its kind)

theorem cells4 {zs : List Int} (h : zs.length = 4) : ∃ x0 x1 x2 x3 : Int, zs = [x0, x1, x2, x3] := by
  match zs, h with
  | [x0, x1, x2, x3], _ => exact ⟨x0, x1, x2, x3, rfl⟩

def laidL : List (String × DataW Unit) := [("loop.example/g00884/impl.lineOffsets", Rows.laid_loop_example_g00884_impl_lineOffsets)]

/-- The door's own heap meets the condition. -/
theorem door_met (os : Os) (args : Array Value) : laidMetH Tryd.prog laidL ((World.doorLaid Tryd.prog 400 os).forCall (fun _ _ => 0) ⟨#[], args, []⟩).memory :=
  laidMetH_of_parts3 (fuel := 8) (laidMet_of_run' 8 (by kernel_rfl) (by kernel_rfl)) (by kernel_rfl) (by kernel_rfl)

theorem own : ownKnob Tryd.prog.godebug = none := by kernel_rfl

/-! ### STEP 1: THE WALK: the Go text returns true. 'Grown w w'': the world has at most new blocks (Derived/RowKit3.lean). Part the cases AHEAD of 'go_enter' where a test parts the walk; take each callee by a contract of your own. -/
set_option maxHeartbeats 4000000 in
set_option maxRecDepth 100000 in
theorem walk (a0_0 a0_1 a0_2 a0_3 : Int) (w0 : ∀ z ∈ [a0_0, a0_1, a0_2, a0_3], (Lit.int .i64 z).wf = true) (w : World) (hL : laidMetH Tryd.prog laidL w) :
    Calls Tryd.prog 12 #[.agg #[.int .i64 a0_0, .int .i64 a0_1, .int .i64 a0_2, .int .i64 a0_3]] w fun e w' => e = .returned (.bool true) ∧ Below w.heap.size w w' := by
  have hT : OffsLie w := offsH hL
  obtain ⟨X, n, ok, hn, CS, CI⟩ : ∃ (X : List Int) (n : Nat) (ok : Bool), n ≤ 24 ∧ (∀ W, Calls Tryd.prog 36 #[.agg #[.int .i64 a0_0, .int .i64 a0_1, .int .i64 a0_2, .int .i64 a0_3]] W (AnsRB W X n ok)) ∧ (∀ W, Below w.heap.size w W → Calls Tryd.prog 35 #[.agg #[.int .i64 a0_0, .int .i64 a0_1, .int .i64 a0_2, .int .i64 a0_3]] W (AnsRB W X n ok)) := by
    by_cases h : FOk a0_0 a0_1 a0_2 a0_3
    · exact ⟨_, 24, true, by omega, fun W => swung_spec a0_0 a0_1 a0_2 a0_3 W h, fun W hb => swung_impl a0_0 a0_1 a0_2 a0_3 W (hT.below hb) h⟩
    · exact ⟨[], 0, false, by omega, fun W => swung_spec_no a0_0 a0_1 a0_2 a0_3 W h, fun W hb => swung_impl_no a0_0 a0_1 a0_2 a0_3 W h⟩
  have HS := Lib.hid CS
  have HI := Lib.hid CI
  have eok : (ok != ok) = false := by simp
  have e0 : decide ((1 : Int) + (n : Int) < 0) = false := by simp; omega
  clear CS CI hT hL
  have HB := Lib.hid ((Below.refl w.heap.size w).alloc (Nat.le_refl _) (.cells #[.int .i64 a0_0, .int .i64 a0_1, .int .i64 a0_2, .int .i64 a0_3] 51 (0, 0)))
  have B_arg := Lib.hid (BoxF.new w [.int .i64 a0_0, .int .i64 a0_1, .int .i64 a0_2, .int .i64 a0_3] 51)
  go_enter Tryd.func12, Tryd.ntmps12
  have d0 := B_arg.out.at 0
  have d1 := B_arg.out.at 1
  have d2 := B_arg.out.at 2
  have d3 := B_arg.out.at 3
  simp only [List.getElem?_cons_zero, List.getElem?_cons_succ] at d0 d1 d2 d3
  clear d0 d1 d2 d3
  go_wp2_with fail
  refine (toField_any a0_0 a0_1 a0_2 a0_3 _).mono ?_
  rintro e w1 ⟨rfl, hb_⟩
  have z_w1 := hb_.size
  try simp only [World.size_alloc] at z_w1
  have B_arg_ := Lib.hid (B_arg.out.below hb_)
  have HB_ := Lib.hid (HB.out.trans (hb_.mono HB.out.size))
  clear B_arg HB
  have B_arg := B_arg_
  have HB := HB_
  clear B_arg_ HB_
  clear hb_
  have d0 := B_arg.out.at 0
  have d1 := B_arg.out.at 1
  have d2 := B_arg.out.at 2
  have d3 := B_arg.out.at 3
  simp only [List.getElem?_cons_zero, List.getElem?_cons_succ] at d0 d1 d2 d3
  go_wp2_with fail
  clear d0 d1 d2 d3
  refine (HS.out _).mono ?_
  rintro e w2 ⟨a_s, c_s, rfl, ho_, hb_⟩
  have l_s : ∀ q, (Value.slice a_s n c_s).ownBlock = some q → _ := fun q hq => World.ownsRow.lt ho_ q hq
  have z_w2 := hb_.size
  try simp only [World.size_alloc] at l_s z_w2
  have B_arg_ := Lib.hid (B_arg.out.below hb_)
  have HB_ := Lib.hid (HB.out.trans (hb_.mono HB.out.size))
  clear B_arg HB
  have B_arg := B_arg_
  have HB := HB_
  clear B_arg_ HB_
  have R_s := Lib.hid ho_
  clear ho_ hb_
  have R_s_ := Lib.hid (R_s.out.below ((Below.refl _ w2).alloc (Nat.le_refl _) (.cells #[.slice a_s n c_s] 35 (0, 0))))
  have B_arg_ := Lib.hid (B_arg.out.alloc (.cells #[.slice a_s n c_s] 35 (0, 0)))
  have HB_ := Lib.hid (HB.out.alloc HB.out.size (.cells #[.slice a_s n c_s] 35 (0, 0)))
  clear R_s B_arg HB
  have R_s := R_s_
  have B_arg := B_arg_
  have HB := HB_
  clear R_s_ B_arg_ HB_
  have B_s := Lib.hid (BoxF.new w2 [.slice a_s n c_s] 35)
  have d0 := B_arg.out.at 0
  have d1 := B_arg.out.at 1
  have d2 := B_arg.out.at 2
  have d3 := B_arg.out.at 3
  simp only [List.getElem?_cons_zero, List.getElem?_cons_succ] at d0 d1 d2 d3
  go_wp2_with fail
  clear d0 d1 d2 d3
  refine (toField_any a0_0 a0_1 a0_2 a0_3 _).mono ?_
  rintro e w3 ⟨rfl, hb_⟩
  have z_w3 := hb_.size
  try simp only [World.size_alloc] at z_w3
  have R_s_ := Lib.hid (R_s.out.below hb_)
  have B_arg_ := Lib.hid (B_arg.out.below hb_)
  have B_s_ := Lib.hid (B_s.out.below hb_)
  have HB_ := Lib.hid (HB.out.trans (hb_.mono HB.out.size))
  clear R_s B_arg B_s HB
  have R_s := R_s_
  have B_arg := B_arg_
  have B_s := B_s_
  have HB := HB_
  clear R_s_ B_arg_ B_s_ HB_
  clear hb_
  have d0 := B_arg.out.at 0
  have d1 := B_arg.out.at 1
  have d2 := B_arg.out.at 2
  have d3 := B_arg.out.at 3
  simp only [List.getElem?_cons_zero, List.getElem?_cons_succ] at d0 d1 d2 d3
  go_wp2_with fail
  clear d0 d1 d2 d3
  refine (HI.out _ HB.out).mono ?_
  rintro e w4 ⟨a_g, c_g, rfl, ho_, hb_⟩
  have l_g : ∀ q, (Value.slice a_g n c_g).ownBlock = some q → _ := fun q hq => World.ownsRow.lt ho_ q hq
  have z_w4 := hb_.size
  try simp only [World.size_alloc] at l_g z_w4
  have R_s_ := Lib.hid (R_s.out.below hb_)
  have B_arg_ := Lib.hid (B_arg.out.below hb_)
  have B_s_ := Lib.hid (B_s.out.below hb_)
  have HB_ := Lib.hid (HB.out.trans (hb_.mono HB.out.size))
  clear R_s B_arg B_s HB
  have R_s := R_s_
  have B_arg := B_arg_
  have B_s := B_s_
  have HB := HB_
  clear R_s_ B_arg_ B_s_ HB_
  have R_g := Lib.hid ho_
  clear ho_ hb_
  have R_s_ := Lib.hid (R_s.out.below ((Below.refl _ w4).alloc (Nat.le_refl _) (.cells #[.slice a_g n c_g] 35 (0, 0))))
  have R_g_ := Lib.hid (R_g.out.below ((Below.refl _ w4).alloc (Nat.le_refl _) (.cells #[.slice a_g n c_g] 35 (0, 0))))
  have B_arg_ := Lib.hid (B_arg.out.alloc (.cells #[.slice a_g n c_g] 35 (0, 0)))
  have B_s_ := Lib.hid (B_s.out.alloc (.cells #[.slice a_g n c_g] 35 (0, 0)))
  have HB_ := Lib.hid (HB.out.alloc HB.out.size (.cells #[.slice a_g n c_g] 35 (0, 0)))
  clear R_s R_g B_arg B_s HB
  have R_s := R_s_
  have R_g := R_g_
  have B_arg := B_arg_
  have B_s := B_s_
  have HB := HB_
  clear R_s_ R_g_ B_arg_ B_s_ HB_
  have B_g := Lib.hid (BoxF.new w4 [.slice a_g n c_g] 35)
  have d0 := B_arg.out.at 0
  have d1 := B_arg.out.at 1
  have d2 := B_arg.out.at 2
  have d3 := B_arg.out.at 3
  simp only [List.getElem?_cons_zero, List.getElem?_cons_succ] at d0 d1 d2 d3
  have c_g := B_g.out.one.1
  have c_s := B_s.out.one.1
  go_wp2_with fail
  clear d0 d1 d2 d3
  clear c_g c_s
  refine (eqRegion_true X n a_g a_s c_g c_s _ R_g.out.rd R_s.out.rd (by omega)).mono ?_
  rintro e w5 ⟨rfl, hb_⟩
  have z_w5 := hb_.size
  try simp only [World.size_alloc] at z_w5
  have R_s_ := Lib.hid (R_s.out.below hb_)
  have R_g_ := Lib.hid (R_g.out.below hb_)
  have B_arg_ := Lib.hid (B_arg.out.below hb_)
  have B_s_ := Lib.hid (B_s.out.below hb_)
  have B_g_ := Lib.hid (B_g.out.below hb_)
  have HB_ := Lib.hid (HB.out.trans (hb_.mono HB.out.size))
  clear R_s R_g B_arg B_s B_g HB
  have R_s := R_s_
  have R_g := R_g_
  have B_arg := B_arg_
  have B_s := B_s_
  have B_g := B_g_
  have HB := HB_
  clear R_s_ R_g_ B_arg_ B_s_ B_g_ HB_
  clear hb_
  have d0 := B_arg.out.at 0
  have d1 := B_arg.out.at 1
  have d2 := B_arg.out.at 2
  have d3 := B_arg.out.at 3
  simp only [List.getElem?_cons_zero, List.getElem?_cons_succ] at d0 d1 d2 d3
  have c_g := B_g.out.one.1
  go_wp2_with fail
  clear d0 d1 d2 d3
  clear c_g
  refine (markRegion_any X n _ c_g a_g _ R_g.out (by omega)).mono ?_
  rintro e w6 ⟨rfl, ho_, hg_⟩
  have z_w6 := hg_.size
  try simp only [World.size_alloc] at z_w6
  have R_s_ := Lib.hid (R_s.out.kept hg_ (by
    cases hq : (Value.slice a_s n c_s).ownBlock with
    | none => exact .inl rfl
    | some q => refine .inr ?_; intro e; have h1 := l_s q hq; have h2 := l_g q e.symm; omega))
  have R_g_ := Lib.hid ho_
  have B_arg_ := Lib.hid (B_arg.out.kept hg_ (by intro e; have h2 := l_g _ e.symm; omega))
  have B_s_ := Lib.hid (B_s.out.kept hg_ (by intro e; have h2 := l_g _ e.symm; omega))
  have B_g_ := Lib.hid (B_g.out.kept hg_ (by intro e; have h2 := l_g _ e.symm; omega))
  have HB_ := Lib.hid (HB.out.grown hg_ HB.out.size (fun q hq => by have := l_g q hq; omega))
  clear R_s R_g B_arg B_s B_g HB
  have R_s := R_s_
  have R_g := R_g_
  have B_arg := B_arg_
  have B_s := B_s_
  have B_g := B_g_
  have HB := HB_
  clear R_s_ R_g_ B_arg_ B_s_ B_g_ HB_
  clear ho_ hg_
  have d0 := B_arg.out.at 0
  have d1 := B_arg.out.at 1
  have d2 := B_arg.out.at 2
  have d3 := B_arg.out.at 3
  simp only [List.getElem?_cons_zero, List.getElem?_cons_succ] at d0 d1 d2 d3
  have c_g := B_g.out.one.1
  go_wp2_with fail
  clear d0 d1 d2 d3
  clear c_g
  refine (heldRegion_any n a_g c_g _ R_g.out.rd (by omega)).mono ?_
  rintro e w7 ⟨rfl, hb_⟩
  have z_w7 := hb_.size
  try simp only [World.size_alloc] at z_w7
  have R_s_ := Lib.hid (R_s.out.below hb_)
  have R_g_ := Lib.hid (R_g.out.below hb_)
  have B_arg_ := Lib.hid (B_arg.out.below hb_)
  have B_s_ := Lib.hid (B_s.out.below hb_)
  have B_g_ := Lib.hid (B_g.out.below hb_)
  have HB_ := Lib.hid (HB.out.trans (hb_.mono HB.out.size))
  clear R_s R_g B_arg B_s B_g HB
  have R_s := R_s_
  have R_g := R_g_
  have B_arg := B_arg_
  have B_s := B_s_
  have B_g := B_g_
  have HB := HB_
  clear R_s_ R_g_ B_arg_ B_s_ B_g_ HB_
  clear hb_
  have d0 := B_arg.out.at 0
  have d1 := B_arg.out.at 1
  have d2 := B_arg.out.at 2
  have d3 := B_arg.out.at 3
  simp only [List.getElem?_cons_zero, List.getElem?_cons_succ] at d0 d1 d2 d3
  go_wp2_with fail
  clear d0 d1 d2 d3
  refine (toField_any a0_0 a0_1 a0_2 a0_3 _).mono ?_
  rintro e w8 ⟨rfl, hb_⟩
  have z_w8 := hb_.size
  try simp only [World.size_alloc] at z_w8
  have R_s_ := Lib.hid (R_s.out.below hb_)
  have R_g_ := Lib.hid (R_g.out.below hb_)
  have B_arg_ := Lib.hid (B_arg.out.below hb_)
  have B_s_ := Lib.hid (B_s.out.below hb_)
  have B_g_ := Lib.hid (B_g.out.below hb_)
  have HB_ := Lib.hid (HB.out.trans (hb_.mono HB.out.size))
  clear R_s R_g B_arg B_s B_g HB
  have R_s := R_s_
  have R_g := R_g_
  have B_arg := B_arg_
  have B_s := B_s_
  have B_g := B_g_
  have HB := HB_
  clear R_s_ R_g_ B_arg_ B_s_ B_g_ HB_
  clear hb_
  have d0 := B_arg.out.at 0
  have d1 := B_arg.out.at 1
  have d2 := B_arg.out.at 2
  have d3 := B_arg.out.at 3
  simp only [List.getElem?_cons_zero, List.getElem?_cons_succ] at d0 d1 d2 d3
  go_wp2_with fail
  clear d0 d1 d2 d3
  refine (HI.out _ HB.out).mono ?_
  rintro e w9 ⟨a_h, c_h, rfl, ho_, hb_⟩
  have l_h : ∀ q, (Value.slice a_h n c_h).ownBlock = some q → _ := fun q hq => World.ownsRow.lt ho_ q hq
  have z_w9 := hb_.size
  try simp only [World.size_alloc] at l_h z_w9
  have R_s_ := Lib.hid (R_s.out.below hb_)
  have R_g_ := Lib.hid (R_g.out.below hb_)
  have B_arg_ := Lib.hid (B_arg.out.below hb_)
  have B_s_ := Lib.hid (B_s.out.below hb_)
  have B_g_ := Lib.hid (B_g.out.below hb_)
  have HB_ := Lib.hid (HB.out.trans (hb_.mono HB.out.size))
  clear R_s R_g B_arg B_s B_g HB
  have R_s := R_s_
  have R_g := R_g_
  have B_arg := B_arg_
  have B_s := B_s_
  have B_g := B_g_
  have HB := HB_
  clear R_s_ R_g_ B_arg_ B_s_ B_g_ HB_
  have R_h := Lib.hid ho_
  clear ho_ hb_
  have R_s_ := Lib.hid (R_s.out.below ((Below.refl _ w9).alloc (Nat.le_refl _) (.cells #[.slice a_h n c_h] 35 (0, 0))))
  have R_g_ := Lib.hid (R_g.out.below ((Below.refl _ w9).alloc (Nat.le_refl _) (.cells #[.slice a_h n c_h] 35 (0, 0))))
  have R_h_ := Lib.hid (R_h.out.below ((Below.refl _ w9).alloc (Nat.le_refl _) (.cells #[.slice a_h n c_h] 35 (0, 0))))
  have B_arg_ := Lib.hid (B_arg.out.alloc (.cells #[.slice a_h n c_h] 35 (0, 0)))
  have B_s_ := Lib.hid (B_s.out.alloc (.cells #[.slice a_h n c_h] 35 (0, 0)))
  have B_g_ := Lib.hid (B_g.out.alloc (.cells #[.slice a_h n c_h] 35 (0, 0)))
  have HB_ := Lib.hid (HB.out.alloc HB.out.size (.cells #[.slice a_h n c_h] 35 (0, 0)))
  clear R_s R_g R_h B_arg B_s B_g HB
  have R_s := R_s_
  have R_g := R_g_
  have R_h := R_h_
  have B_arg := B_arg_
  have B_s := B_s_
  have B_g := B_g_
  have HB := HB_
  clear R_s_ R_g_ R_h_ B_arg_ B_s_ B_g_ HB_
  have B_h := Lib.hid (BoxF.new w9 [.slice a_h n c_h] 35)
  have d0 := B_arg.out.at 0
  have d1 := B_arg.out.at 1
  have d2 := B_arg.out.at 2
  have d3 := B_arg.out.at 3
  simp only [List.getElem?_cons_zero, List.getElem?_cons_succ] at d0 d1 d2 d3
  have c_h := B_h.out.one.1
  have c_s := B_s.out.one.1
  go_wp2_with fail
  clear d0 d1 d2 d3
  clear c_h c_s
  refine (eqRegion_true X n a_h a_s c_h c_s _ R_h.out.rd R_s.out.rd (by omega)).mono ?_
  rintro e w10 ⟨rfl, hb_⟩
  have z_w10 := hb_.size
  try simp only [World.size_alloc] at z_w10
  have R_s_ := Lib.hid (R_s.out.below hb_)
  have R_g_ := Lib.hid (R_g.out.below hb_)
  have R_h_ := Lib.hid (R_h.out.below hb_)
  have B_arg_ := Lib.hid (B_arg.out.below hb_)
  have B_s_ := Lib.hid (B_s.out.below hb_)
  have B_g_ := Lib.hid (B_g.out.below hb_)
  have B_h_ := Lib.hid (B_h.out.below hb_)
  have HB_ := Lib.hid (HB.out.trans (hb_.mono HB.out.size))
  clear R_s R_g R_h B_arg B_s B_g B_h HB
  have R_s := R_s_
  have R_g := R_g_
  have R_h := R_h_
  have B_arg := B_arg_
  have B_s := B_s_
  have B_g := B_g_
  have B_h := B_h_
  have HB := HB_
  clear R_s_ R_g_ R_h_ B_arg_ B_s_ B_g_ B_h_ HB_
  clear hb_
  have d0 := B_arg.out.at 0
  have d1 := B_arg.out.at 1
  have d2 := B_arg.out.at 2
  have d3 := B_arg.out.at 3
  simp only [List.getElem?_cons_zero, List.getElem?_cons_succ] at d0 d1 d2 d3
  have c_g := B_g.out.one.1
  go_wp2_with fail
  clear d0 d1 d2 d3
  clear c_g
  refine (heldRegion_any n a_g c_g _ R_g.out.rd (by omega)).mono ?_
  rintro e w11 ⟨rfl, hb_⟩
  have z_w11 := hb_.size
  try simp only [World.size_alloc] at z_w11
  have R_s_ := Lib.hid (R_s.out.below hb_)
  have R_g_ := Lib.hid (R_g.out.below hb_)
  have R_h_ := Lib.hid (R_h.out.below hb_)
  have B_arg_ := Lib.hid (B_arg.out.below hb_)
  have B_s_ := Lib.hid (B_s.out.below hb_)
  have B_g_ := Lib.hid (B_g.out.below hb_)
  have B_h_ := Lib.hid (B_h.out.below hb_)
  have HB_ := Lib.hid (HB.out.trans (hb_.mono HB.out.size))
  clear R_s R_g R_h B_arg B_s B_g B_h HB
  have R_s := R_s_
  have R_g := R_g_
  have R_h := R_h_
  have B_arg := B_arg_
  have B_s := B_s_
  have B_g := B_g_
  have B_h := B_h_
  have HB := HB_
  clear R_s_ R_g_ R_h_ B_arg_ B_s_ B_g_ B_h_ HB_
  clear hb_
  have d0 := B_arg.out.at 0
  have d1 := B_arg.out.at 1
  have d2 := B_arg.out.at 2
  have d3 := B_arg.out.at 3
  simp only [List.getElem?_cons_zero, List.getElem?_cons_succ] at d0 d1 d2 d3
  go_wp2_with fail
  clear d0 d1 d2 d3
  go_ret
  exact ⟨rfl, HB.out⟩

/-! ### THE ROW's STEP: WRITTEN OUT: LEAVE IT -/
set_option maxRecDepth 100000 in
set_option maxHeartbeats 4000000 in
theorem lifted (os : Os) (started : os.Started) (H : Type) (enc : TypeId × Value → H) :
    ReturnsInHanded {} Tryd.checked os 12 .any (fun w args => (Rows.fnExactSwungCellsSpec.pre enc Tryd.prog Tryd.f12 Rows.fnExactSwungCellsRow.domain false w args ∧ laidMetH Tryd.prog laidL w) ∧ sizedMet enc Tryd.prog Tryd.f12 (OpenSpec.ofChange Rows.fnExactSwungCellsSpec) false w args)
      (Rows.fnExactSwungCellsSpec.post enc Tryd.prog Tryd.f12 false true false false) := by
  refine returnsInHanded_of_change_and (C := Tryd.checked) (X := fun w _ => laidMetH Tryd.prog laidL w) (fun _ _ _ hh h => h.of_heap hh) own started (by kernel_rfl) Tryd.func12
    (ChangeSpec.witness_shaped (enc := enc) (C := Tryd.checked) (os := os) (X := fun w _ => laidMetH Tryd.prog laidL w) false (World.doorLaid Tryd.prog 400 os) #[.agg #[.int .i64 0, .int .i64 0, .int .i64 0, .int .i64 0]] 8 rfl (World.shaped_of_RefB (by kernel_rfl) (by kernel_rfl)) (by kernel_rfl) (by kernel_rfl) (by kernel_rfl) (door_met os _)) ?_
  intro W base args ds gs before hval0 hW _ hsz0 hL _
  have hval : ∀ (j : Nat) t v, Tryd.f12.params[j]? = some t → args[j]? = some v → Value.okWide Tryd.prog W .any base t v := hval0
  have hW' := hW
  obtain ⟨p, q, hA0, hV, rfl, hfz, hnd⟩ := hW
  have hA : DataW.TrodAll enc Tryd.prog W 0 (fun _ => true) true Tryd.f12.params.toList args.toList ds p := hA0
  rw [Tryd.params12] at hA hval
  obtain ⟨v0, vs0, d0, ds0, p0, q0, hargs, rfl, rfl, h0, r0⟩ := trodAll_cons hA
  obtain ⟨rfl, rfl, rfl⟩ := trodAll_nil r0
  obtain rfl : args = #[v0] := by cases args; simp_all
  obtain ⟨gv, tv, csv, fuelv, dv, pv, hgs, _⟩ := trodVars_one hV
  subst hgs
  have k0 := h0
  have lt0 : ∀ x ∈ p0, x.block < W.heap.size := by obtain ⟨m, hm⟩ := k0; exact DataW.trod_lt m _ _ _ hm
  obtain ⟨a0_0, a0_1, a0_2, a0_3, rfl, w0⟩ : ∃ a0_0 a0_1 a0_2 a0_3 : Int, v0 = .agg #[.int .i64 a0_0, .int .i64 a0_1, .int .i64 a0_2, .int .i64 a0_3] ∧ ∀ z ∈ [a0_0, a0_1, a0_2, a0_3], (Lit.int .i64 z).wf = true := by
    obtain ⟨zs, hl, rfl, hw⟩ := flat_open (n := 4) Tryd.underlying51 (by kernel_rfl) (by kernel_rfl) (hval 0 51 v0 rfl rfl) h0
    obtain ⟨a0_0, a0_1, a0_2, a0_3, rfl⟩ := cells4 hl
    exact ⟨a0_0, a0_1, a0_2, a0_3, rfl, hw⟩
  clear hA0 hval0
  refine (walk a0_0 a0_1 a0_2 a0_3 w0 W hL).mono fun e W' ⟨he, bel⟩ => ?_
  subst he
  exact ⟨_, rfl, _, _, _, [], _, q, hW', (trodAll_cons_mk (shut_bool Tryd.underlying4 _) trodAll_mk0), (trodAll_cons_mk (Below.trod (by kernel_rfl) (by kernel_rfl) (of_decide_eq_true (by kernel_rfl)) k0 bel lt0) trodAll_mk0), Below.trodVars (by kernel_rfl) bel (by kernel_rfl) hV, bel.frame _, fun h => by cases h⟩

theorem over : Rows.fnExactSwungCellsRow.holds Tryd.pinned (OpenSpec.ofChange Rows.fnExactSwungCellsSpec) :=
  OpenClaim.holds_of_wide 12 Tryd.f12 rfl rfl rfl rfl rfl rfl rfl ⟨rfl, rfl, rfl, rfl, rfl⟩ rfl rfl rfl rfl rfl (by kernel_rfl) Tryd.func12 (by kernel_rfl)
    (of_decide_eq_true (by kernel_rfl)) (by unfold Func.isWrapper; first | (rw [if_pos (by decide +kernel)]; kernel_rfl) | (rw [if_neg (by decide +kernel)]; exact ⟨rfl, rfl⟩))
    (fun os started H enc _ => lifted os started H enc)

/-- The row's statement. -/
theorem proved : Rows.FnExactSwungCellsSaid :=
  over

/-- THE TIED CARD: the listed variables are those that the program's own text lays. -/
theorem card : Rows.FnExactSwungCellsCardSaid :=
  Claim7.holds_tied_plain_at .later [] [.data] true (true, "17332f113ef768b003665e4ba820d8bca6e43642aa79ba398e66b0f33fe09813") false
    proved (fun _ h => by cases h) (by kernel_rfl) (fun _ h => by cases h) fnExactSwungCells_row_tie rfl ⟨rfl, rfl⟩ (by kernel_rfl) rfl
    (fun f fn hf hfn => by
      obtain rfl : f = 12 := Option.some.inj ((show Tryd.prog.funcNamed "loop.example/g00884/laws.FnExactSwungCells" = some 12 by kernel_rfl).symm.trans hf) |>.symm
      obtain rfl : fn = Tryd.f12 := (Option.some.inj (Tryd.func12.symm.trans hfn)).symm
      exact ⟨by kernel_rfl, fun j t ht => by
        rw [Tryd.params12] at ht
        have hm : t ∈ [51] := by
          have := Array.mem_of_getElem? ht
          first | simpa using this | (simp at this ⊢; omega) | (simp at this ⊢; rcases this with h | h <;> simp [h])
        have hall : ([51].all fun u => !Tryd.prog.wantsStandIn u) = true := by kernel_rfl
        exact (show Tryd.prog.wantsStandIn t = false by simpa using List.all_eq_true.1 hall t hm)⟩)
    (by kernel_rfl)
#print axioms card
end Go.Proofs.YtkhpgggaaldhhaaDoor.fnExactSwungCells
