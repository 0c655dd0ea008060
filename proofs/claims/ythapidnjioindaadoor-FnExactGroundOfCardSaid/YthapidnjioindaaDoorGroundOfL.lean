/- FnExactGroundOf: at every arms, valid or not, the law returns true: GroundOf of the program answers as its model does, in memory of its own. The card ties the tables of attitudes and of offsets to the program's text. No condition. -/
import Derived.Test.YthapidnjioindaaDoorRows
import Derived.Test.YthapidnjioindaaDoorCards
import Derived.Test.YthapidnjioindaaDoorTie
import Derived.WalkKit
import Derived.ProofKit
import Derived.OpenShut
import Derived.ShutString
import Derived.Test.YthapidnjioindaaDoorC11S
import Derived.Test.YthapidnjioindaaDoorC11V
import Derived.Test.YthapidnjioindaaDoorKID
import Derived.LaidMore
import Derived.Stop.Joined
import Derived.SevenTiedAt
import Derived.OpenVars
import Derived.ChangeVars
import Derived.Below
import Derived.Test.YthapidnjioindaaDoorFlat
namespace Go.Proofs.YthapidnjioindaaDoor.fnExactGroundOf
open Go.ChangeShapes Go.WideShapes Go.ChangeAt Go.RowKit
open Go.ChangeMaps (open_string shut_string)
set_option linter.unusedVariables false      -- a walk need not use every 'w<i>' (that an integer argument fits its kind)

theorem cells15 {zs : List Int} (h : zs.length = 15) : ∃ x0 x1 x2 x3 x4 x5 x6 x7 x8 x9 x10 x11 x12 x13 x14 : Int, zs = [x0, x1, x2, x3, x4, x5, x6, x7, x8, x9, x10, x11, x12, x13, x14] := by
  match zs, h with
  | [x0, x1, x2, x3, x4, x5, x6, x7, x8, x9, x10, x11, x12, x13, x14], _ => exact ⟨x0, x1, x2, x3, x4, x5, x6, x7, x8, x9, x10, x11, x12, x13, x14, rfl⟩

def laidL : List (String × DataW Unit) := [("loop.example/g00884/impl.lineOffsets", Rows.laid_loop_example_g00884_impl_lineOffsets), ("loop.example/g00884/impl.attitudeWords", Rows.laid_loop_example_g00884_impl_attitudeWords)]

/-- The door's own heap meets the condition. -/
theorem door_met (os : Os) (args : Array Value) : laidMetH Tryd.prog laidL ((World.doorLaid Tryd.prog 400 os).forCall (fun _ _ => 0) ⟨#[], args, []⟩).memory :=
  laidMetH_of_parts3 (fuel := 8) (laidMet_of_run' 8 (by kernel_rfl) (by kernel_rfl)) (by kernel_rfl) (by kernel_rfl)

theorem readings {H : Type} {enc : TypeId × Value → H} {P : Program} {w : World} {spare : Nat → Bool} {n0 n1 : String} {gs : List (DataW H)} {ps : List MemPlace} (h : DataW.TrodVars enc P w spare [n0, n1] gs ps) : ∃ gv0 gv1 : DataW H, gs = [gv0, gv1] := by
  cases gs with
  | nil => simp [DataW.TrodVars] at h
  | cons g0 gs =>
  obtain ⟨_, _, _, _, _, _, _, _, _, _, h, _⟩ := h
  cases gs with
  | nil => simp [DataW.TrodVars] at h
  | cons g1 gs =>
  obtain ⟨_, _, _, _, _, _, _, _, _, _, h, _⟩ := h
  obtain ⟨rfl, _⟩ := trodVars_none h
  exact ⟨g0, g1, rfl⟩

theorem own : ownKnob Tryd.prog.godebug = none := by kernel_rfl

/-! ### STEP 1: THE WALK: the Go text returns true. 'Grown w w'': the world has at most new blocks (Derived/RowKit3.lean). Part the cases AHEAD of 'go_enter' where a test parts the walk; take each callee by a contract of your own. -/
set_option maxHeartbeats 8000000 in
set_option maxRecDepth 100000 in
theorem walk (a0_0 a0_1 a0_2 a0_3 a0_4 a0_5 a0_6 a0_7 a0_8 a0_9 a0_10 a0_11 a0_12 a0_13 a0_14 : Int) (w0 : ∀ z ∈ [a0_0, a0_1, a0_2, a0_3, a0_4, a0_5, a0_6, a0_7, a0_8, a0_9, a0_10, a0_11, a0_12, a0_13, a0_14], (Lit.int .i64 z).wf = true) (w : World) (hL : laidMetH Tryd.prog laidL w) :
    Calls Tryd.prog 7 #[.agg #[.int .i64 a0_0, .int .i64 a0_1, .int .i64 a0_2, .int .i64 a0_3, .int .i64 a0_4, .int .i64 a0_5, .int .i64 a0_6, .int .i64 a0_7, .int .i64 a0_8, .int .i64 a0_9, .int .i64 a0_10, .int .i64 a0_11, .int .i64 a0_12, .int .i64 a0_13, .int .i64 a0_14]] w fun e w' => e = .returned (.bool true) ∧ Below w.heap.size w w' := by
  have hA : AttsLie w := attsOf (by kernel_rfl) hL
  have hT : OffsLie w := offsOf (by kernel_rfl) hL
  obtain ⟨r, hr⟩ : ∃ r, aOkB a0_0 a0_1 a0_2 a0_3 a0_4 a0_5 a0_6 a0_7 a0_8 a0_9 a0_10 a0_11 a0_12 a0_13 a0_14 = r := ⟨_, rfl⟩
  obtain ⟨X, n, ok, hn, CS, CI⟩ : ∃ (X : List Int) (n : Nat) (ok : Bool), n ≤ 24 ∧ (∀ W, Calls Tryd.prog 31 #[.agg #[.int .i64 a0_0, .int .i64 a0_1, .int .i64 a0_2, .int .i64 a0_3, .int .i64 a0_4, .int .i64 a0_5, .int .i64 a0_6, .int .i64 a0_7, .int .i64 a0_8, .int .i64 a0_9, .int .i64 a0_10, .int .i64 a0_11, .int .i64 a0_12, .int .i64 a0_13, .int .i64 a0_14]] W (AnsRB W X n ok)) ∧ (∀ W, Below w.heap.size w W → Calls Tryd.prog 32 #[.agg #[.int .i64 a0_0, .int .i64 a0_1, .int .i64 a0_2, .int .i64 a0_3, .int .i64 a0_4, .int .i64 a0_5, .int .i64 a0_6, .int .i64 a0_7, .int .i64 a0_8, .int .i64 a0_9, .int .i64 a0_10, .int .i64 a0_11, .int .i64 a0_12, .int .i64 a0_13, .int .i64 a0_14]] W (AnsRB W X n ok)) :=
    ⟨_, _, r, by unfold ansLen; split <;> omega, fun W => ground_spec a0_0 a0_1 a0_2 a0_3 a0_4 a0_5 a0_6 a0_7 a0_8 a0_9 a0_10 a0_11 a0_12 a0_13 a0_14 W r hr, fun W hb => ground_impl a0_0 a0_1 a0_2 a0_3 a0_4 a0_5 a0_6 a0_7 a0_8 a0_9 a0_10 a0_11 a0_12 a0_13 a0_14 W r hr (hA.below hb) (hT.below hb)⟩
  have HS := Lib.hid CS
  have HI := Lib.hid CI
  have eok : (ok != ok) = false := by simp
  have e0 : decide ((1 : Int) + (n : Int) < 0) = false := by simp; omega
  have HB := Lib.hid ((Below.refl w.heap.size w).alloc (Nat.le_refl _) (.cells #[.int .i64 a0_0, .int .i64 a0_1, .int .i64 a0_2, .int .i64 a0_3, .int .i64 a0_4, .int .i64 a0_5, .int .i64 a0_6, .int .i64 a0_7, .int .i64 a0_8, .int .i64 a0_9, .int .i64 a0_10, .int .i64 a0_11, .int .i64 a0_12, .int .i64 a0_13, .int .i64 a0_14] 54 (0, 0)))
  have B_arg0 := Lib.hid (BoxF.new w [.int .i64 a0_0, .int .i64 a0_1, .int .i64 a0_2, .int .i64 a0_3, .int .i64 a0_4, .int .i64 a0_5, .int .i64 a0_6, .int .i64 a0_7, .int .i64 a0_8, .int .i64 a0_9, .int .i64 a0_10, .int .i64 a0_11, .int .i64 a0_12, .int .i64 a0_13, .int .i64 a0_14] 54)
  clear CS CI hA hT hL hr
  go_enter Tryd.func7, Tryd.ntmps7
  have r_ := rangeB B_arg0.out
  go_wp2_with (with_reducible refine aList ?_; refine ldL 1 w.heap.size [.int .i64 a0_0, .int .i64 a0_1, .int .i64 a0_2, .int .i64 a0_3, .int .i64 a0_4, .int .i64 a0_5, .int .i64 a0_6, .int .i64 a0_7, .int .i64 a0_8, .int .i64 a0_9, .int .i64 a0_10, .int .i64 a0_11, .int .i64 a0_12, .int .i64 a0_13, .int .i64 a0_14] rfl rfl rfl rfl ?_ ?_; exact r_)
  clear r_
  refine (toArms_any a0_0 a0_1 a0_2 a0_3 a0_4 a0_5 a0_6 a0_7 a0_8 a0_9 a0_10 a0_11 a0_12 a0_13 a0_14 _).mono ?_
  rintro e w1 ⟨rfl, hb_⟩
  have z_w1 := hb_.size
  try simp only [World.size_alloc] at z_w1
  have B_arg0_ := Lib.hid (B_arg0.out.below hb_)
  have HB_ := Lib.hid (HB.out.trans (hb_.mono HB.out.size))
  clear B_arg0 HB
  have B_arg0 := B_arg0_
  have HB := HB_
  clear B_arg0_ HB_
  clear hb_
  go_wp2_with fail
  refine (HS.out _).mono ?_
  rintro e w2 ⟨a_s, c_s, rfl, ho_, hb_⟩
  have l_s : ∀ q, (Value.slice a_s n c_s).ownBlock = some q → _ := fun q hq => World.ownsRow.lt ho_ q hq
  have z_w2 := hb_.size
  try simp only [World.size_alloc] at l_s z_w2
  have B_arg0_ := Lib.hid (B_arg0.out.below hb_)
  have HB_ := Lib.hid (HB.out.trans (hb_.mono HB.out.size))
  clear B_arg0 HB
  have B_arg0 := B_arg0_
  have HB := HB_
  clear B_arg0_ HB_
  have R_s := Lib.hid ho_
  clear ho_ hb_
  have R_s_ := Lib.hid (R_s.out.below ((Below.refl _ w2).alloc (Nat.le_refl _) (.cells #[.slice a_s n c_s] 26 (0, 0))))
  have B_arg0_ := Lib.hid (B_arg0.out.alloc (.cells #[.slice a_s n c_s] 26 (0, 0)))
  have HB_ := Lib.hid (HB.out.alloc HB.out.size (.cells #[.slice a_s n c_s] 26 (0, 0)))
  clear R_s B_arg0 HB
  have R_s := R_s_
  have B_arg0 := B_arg0_
  have HB := HB_
  clear R_s_ B_arg0_ HB_
  have B_s := Lib.hid (BoxF.new w2 [.slice a_s n c_s] 26)
  have r_ := rangeB B_arg0.out
  go_wp2_with (with_reducible refine aList ?_; refine ldL 1 w.heap.size [.int .i64 a0_0, .int .i64 a0_1, .int .i64 a0_2, .int .i64 a0_3, .int .i64 a0_4, .int .i64 a0_5, .int .i64 a0_6, .int .i64 a0_7, .int .i64 a0_8, .int .i64 a0_9, .int .i64 a0_10, .int .i64 a0_11, .int .i64 a0_12, .int .i64 a0_13, .int .i64 a0_14] rfl rfl rfl rfl ?_ ?_; exact r_)
  clear r_
  refine (toArms_any a0_0 a0_1 a0_2 a0_3 a0_4 a0_5 a0_6 a0_7 a0_8 a0_9 a0_10 a0_11 a0_12 a0_13 a0_14 _).mono ?_
  rintro e w3 ⟨rfl, hb_⟩
  have z_w3 := hb_.size
  try simp only [World.size_alloc] at z_w3
  have R_s_ := Lib.hid (R_s.out.below hb_)
  have B_arg0_ := Lib.hid (B_arg0.out.below hb_)
  have B_s_ := Lib.hid (B_s.out.below hb_)
  have HB_ := Lib.hid (HB.out.trans (hb_.mono HB.out.size))
  clear R_s B_arg0 B_s HB
  have R_s := R_s_
  have B_arg0 := B_arg0_
  have B_s := B_s_
  have HB := HB_
  clear R_s_ B_arg0_ B_s_ HB_
  clear hb_
  go_wp2_with fail
  refine (HI.out _ HB.out).mono ?_
  rintro e w4 ⟨a_g, c_g, rfl, ho_, hb_⟩
  have l_g : ∀ q, (Value.slice a_g n c_g).ownBlock = some q → _ := fun q hq => World.ownsRow.lt ho_ q hq
  have z_w4 := hb_.size
  try simp only [World.size_alloc] at l_g z_w4
  have R_s_ := Lib.hid (R_s.out.below hb_)
  have B_arg0_ := Lib.hid (B_arg0.out.below hb_)
  have B_s_ := Lib.hid (B_s.out.below hb_)
  have HB_ := Lib.hid (HB.out.trans (hb_.mono HB.out.size))
  clear R_s B_arg0 B_s HB
  have R_s := R_s_
  have B_arg0 := B_arg0_
  have B_s := B_s_
  have HB := HB_
  clear R_s_ B_arg0_ B_s_ HB_
  have R_g := Lib.hid ho_
  clear ho_ hb_
  have R_s_ := Lib.hid (R_s.out.below ((Below.refl _ w4).alloc (Nat.le_refl _) (.cells #[.slice a_g n c_g] 26 (0, 0))))
  have R_g_ := Lib.hid (R_g.out.below ((Below.refl _ w4).alloc (Nat.le_refl _) (.cells #[.slice a_g n c_g] 26 (0, 0))))
  have B_arg0_ := Lib.hid (B_arg0.out.alloc (.cells #[.slice a_g n c_g] 26 (0, 0)))
  have B_s_ := Lib.hid (B_s.out.alloc (.cells #[.slice a_g n c_g] 26 (0, 0)))
  have HB_ := Lib.hid (HB.out.alloc HB.out.size (.cells #[.slice a_g n c_g] 26 (0, 0)))
  clear R_s R_g B_arg0 B_s HB
  have R_s := R_s_
  have R_g := R_g_
  have B_arg0 := B_arg0_
  have B_s := B_s_
  have HB := HB_
  clear R_s_ R_g_ B_arg0_ B_s_ HB_
  have B_g := Lib.hid (BoxF.new w4 [.slice a_g n c_g] 26)
  have c_g := B_g.out.one.1
  have c_s := B_s.out.one.1
  go_wp2_with fail
  clear c_g c_s
  refine (eqRegion_true X n a_g a_s c_g c_s _ R_g.out.rd R_s.out.rd (by omega)).mono ?_
  rintro e w5 ⟨rfl, hb_⟩
  have z_w5 := hb_.size
  try simp only [World.size_alloc] at z_w5
  have R_s_ := Lib.hid (R_s.out.below hb_)
  have R_g_ := Lib.hid (R_g.out.below hb_)
  have B_arg0_ := Lib.hid (B_arg0.out.below hb_)
  have B_s_ := Lib.hid (B_s.out.below hb_)
  have B_g_ := Lib.hid (B_g.out.below hb_)
  have HB_ := Lib.hid (HB.out.trans (hb_.mono HB.out.size))
  clear R_s R_g B_arg0 B_s B_g HB
  have R_s := R_s_
  have R_g := R_g_
  have B_arg0 := B_arg0_
  have B_s := B_s_
  have B_g := B_g_
  have HB := HB_
  clear R_s_ R_g_ B_arg0_ B_s_ B_g_ HB_
  clear hb_
  have c_g := B_g.out.one.1
  go_wp2_with fail
  clear c_g
  have z_m := HB.out.size
  refine (markRegion_any X n _ c_g a_g _ R_g.out (by omega)).mono ?_
  rintro e w6 ⟨rfl, ho_, hg_⟩
  have z_w6 := hg_.size
  try simp only [World.size_alloc] at z_w6
  have R_s_ := Lib.hid (R_s.out.kept hg_ (by
    cases hq : (Value.slice a_s n c_s).ownBlock with
    | none => exact .inl rfl
    | some q => refine .inr ?_; intro e; have h1 := l_s q hq; have h2 := l_g q e.symm; omega))
  have R_g_ := Lib.hid ho_
  have B_arg0_ := Lib.hid (B_arg0.out.kept hg_ (by intro e; have h2 := l_g _ e.symm; omega))
  have B_s_ := Lib.hid (B_s.out.kept hg_ (by intro e; have h2 := l_g _ e.symm; omega))
  have B_g_ := Lib.hid (B_g.out.kept hg_ (by intro e; have h2 := l_g _ e.symm; omega))
  have HB_ := Lib.hid (HB.out.grown hg_ HB.out.size (fun q hq => by have := l_g q hq; omega))
  clear R_s R_g B_arg0 B_s B_g HB
  have R_s := R_s_
  have R_g := R_g_
  have B_arg0 := B_arg0_
  have B_s := B_s_
  have B_g := B_g_
  have HB := HB_
  clear R_s_ R_g_ B_arg0_ B_s_ B_g_ HB_
  clear ho_ hg_
  have c_g := B_g.out.one.1
  go_wp2_with fail
  clear c_g
  refine (heldRegion_any n a_g c_g _ R_g.out.rd (by omega)).mono ?_
  rintro e w7 ⟨rfl, hb_⟩
  have z_w7 := hb_.size
  try simp only [World.size_alloc] at z_w7
  have R_s_ := Lib.hid (R_s.out.below hb_)
  have R_g_ := Lib.hid (R_g.out.below hb_)
  have B_arg0_ := Lib.hid (B_arg0.out.below hb_)
  have B_s_ := Lib.hid (B_s.out.below hb_)
  have B_g_ := Lib.hid (B_g.out.below hb_)
  have HB_ := Lib.hid (HB.out.trans (hb_.mono HB.out.size))
  clear R_s R_g B_arg0 B_s B_g HB
  have R_s := R_s_
  have R_g := R_g_
  have B_arg0 := B_arg0_
  have B_s := B_s_
  have B_g := B_g_
  have HB := HB_
  clear R_s_ R_g_ B_arg0_ B_s_ B_g_ HB_
  clear hb_
  have r_ := rangeB B_arg0.out
  go_wp2_with (with_reducible refine aList ?_; refine ldL 1 w.heap.size [.int .i64 a0_0, .int .i64 a0_1, .int .i64 a0_2, .int .i64 a0_3, .int .i64 a0_4, .int .i64 a0_5, .int .i64 a0_6, .int .i64 a0_7, .int .i64 a0_8, .int .i64 a0_9, .int .i64 a0_10, .int .i64 a0_11, .int .i64 a0_12, .int .i64 a0_13, .int .i64 a0_14] rfl rfl rfl rfl ?_ ?_; exact r_)
  clear r_
  refine (toArms_any a0_0 a0_1 a0_2 a0_3 a0_4 a0_5 a0_6 a0_7 a0_8 a0_9 a0_10 a0_11 a0_12 a0_13 a0_14 _).mono ?_
  rintro e w8 ⟨rfl, hb_⟩
  have z_w8 := hb_.size
  try simp only [World.size_alloc] at z_w8
  have R_s_ := Lib.hid (R_s.out.below hb_)
  have R_g_ := Lib.hid (R_g.out.below hb_)
  have B_arg0_ := Lib.hid (B_arg0.out.below hb_)
  have B_s_ := Lib.hid (B_s.out.below hb_)
  have B_g_ := Lib.hid (B_g.out.below hb_)
  have HB_ := Lib.hid (HB.out.trans (hb_.mono HB.out.size))
  clear R_s R_g B_arg0 B_s B_g HB
  have R_s := R_s_
  have R_g := R_g_
  have B_arg0 := B_arg0_
  have B_s := B_s_
  have B_g := B_g_
  have HB := HB_
  clear R_s_ R_g_ B_arg0_ B_s_ B_g_ HB_
  clear hb_
  go_wp2_with fail
  refine (HI.out _ HB.out).mono ?_
  rintro e w9 ⟨a_h, c_h, rfl, ho_, hb_⟩
  have l_h : ∀ q, (Value.slice a_h n c_h).ownBlock = some q → _ := fun q hq => World.ownsRow.lt ho_ q hq
  have z_w9 := hb_.size
  try simp only [World.size_alloc] at l_h z_w9
  have R_s_ := Lib.hid (R_s.out.below hb_)
  have R_g_ := Lib.hid (R_g.out.below hb_)
  have B_arg0_ := Lib.hid (B_arg0.out.below hb_)
  have B_s_ := Lib.hid (B_s.out.below hb_)
  have B_g_ := Lib.hid (B_g.out.below hb_)
  have HB_ := Lib.hid (HB.out.trans (hb_.mono HB.out.size))
  clear R_s R_g B_arg0 B_s B_g HB
  have R_s := R_s_
  have R_g := R_g_
  have B_arg0 := B_arg0_
  have B_s := B_s_
  have B_g := B_g_
  have HB := HB_
  clear R_s_ R_g_ B_arg0_ B_s_ B_g_ HB_
  have R_h := Lib.hid ho_
  clear ho_ hb_
  have R_s_ := Lib.hid (R_s.out.below ((Below.refl _ w9).alloc (Nat.le_refl _) (.cells #[.slice a_h n c_h] 26 (0, 0))))
  have R_g_ := Lib.hid (R_g.out.below ((Below.refl _ w9).alloc (Nat.le_refl _) (.cells #[.slice a_h n c_h] 26 (0, 0))))
  have R_h_ := Lib.hid (R_h.out.below ((Below.refl _ w9).alloc (Nat.le_refl _) (.cells #[.slice a_h n c_h] 26 (0, 0))))
  have B_arg0_ := Lib.hid (B_arg0.out.alloc (.cells #[.slice a_h n c_h] 26 (0, 0)))
  have B_s_ := Lib.hid (B_s.out.alloc (.cells #[.slice a_h n c_h] 26 (0, 0)))
  have B_g_ := Lib.hid (B_g.out.alloc (.cells #[.slice a_h n c_h] 26 (0, 0)))
  have HB_ := Lib.hid (HB.out.alloc HB.out.size (.cells #[.slice a_h n c_h] 26 (0, 0)))
  clear R_s R_g R_h B_arg0 B_s B_g HB
  have R_s := R_s_
  have R_g := R_g_
  have R_h := R_h_
  have B_arg0 := B_arg0_
  have B_s := B_s_
  have B_g := B_g_
  have HB := HB_
  clear R_s_ R_g_ R_h_ B_arg0_ B_s_ B_g_ HB_
  have B_h := Lib.hid (BoxF.new w9 [.slice a_h n c_h] 26)
  have c_h := B_h.out.one.1
  have c_s := B_s.out.one.1
  go_wp2_with fail
  clear c_h c_s
  refine (eqRegion_true X n a_h a_s c_h c_s _ R_h.out.rd R_s.out.rd (by omega)).mono ?_
  rintro e w10 ⟨rfl, hb_⟩
  have z_w10 := hb_.size
  try simp only [World.size_alloc] at z_w10
  have R_s_ := Lib.hid (R_s.out.below hb_)
  have R_g_ := Lib.hid (R_g.out.below hb_)
  have R_h_ := Lib.hid (R_h.out.below hb_)
  have B_arg0_ := Lib.hid (B_arg0.out.below hb_)
  have B_s_ := Lib.hid (B_s.out.below hb_)
  have B_g_ := Lib.hid (B_g.out.below hb_)
  have B_h_ := Lib.hid (B_h.out.below hb_)
  have HB_ := Lib.hid (HB.out.trans (hb_.mono HB.out.size))
  clear R_s R_g R_h B_arg0 B_s B_g B_h HB
  have R_s := R_s_
  have R_g := R_g_
  have R_h := R_h_
  have B_arg0 := B_arg0_
  have B_s := B_s_
  have B_g := B_g_
  have B_h := B_h_
  have HB := HB_
  clear R_s_ R_g_ R_h_ B_arg0_ B_s_ B_g_ B_h_ HB_
  clear hb_
  have c_g := B_g.out.one.1
  go_wp2_with fail
  clear c_g
  refine (heldRegion_any n a_g c_g _ R_g.out.rd (by omega)).mono ?_
  rintro e w11 ⟨rfl, hb_⟩
  have z_w11 := hb_.size
  try simp only [World.size_alloc] at z_w11
  have R_s_ := Lib.hid (R_s.out.below hb_)
  have R_g_ := Lib.hid (R_g.out.below hb_)
  have R_h_ := Lib.hid (R_h.out.below hb_)
  have B_arg0_ := Lib.hid (B_arg0.out.below hb_)
  have B_s_ := Lib.hid (B_s.out.below hb_)
  have B_g_ := Lib.hid (B_g.out.below hb_)
  have B_h_ := Lib.hid (B_h.out.below hb_)
  have HB_ := Lib.hid (HB.out.trans (hb_.mono HB.out.size))
  clear R_s R_g R_h B_arg0 B_s B_g B_h HB
  have R_s := R_s_
  have R_g := R_g_
  have R_h := R_h_
  have B_arg0 := B_arg0_
  have B_s := B_s_
  have B_g := B_g_
  have B_h := B_h_
  have HB := HB_
  clear R_s_ R_g_ R_h_ B_arg0_ B_s_ B_g_ B_h_ HB_
  clear hb_
  go_wp2_with fail
  go_ret
  exact ⟨rfl, HB.out⟩

/-! ### THE ROW's STEP: WRITTEN OUT: LEAVE IT -/
set_option maxRecDepth 100000 in
set_option maxHeartbeats 4000000 in
theorem lifted (os : Os) (started : os.Started) (H : Type) (enc : TypeId × Value → H) :
    ReturnsInHanded {} Tryd.checked os 7 .any (fun w args => (Rows.fnExactGroundOfSpec.pre enc Tryd.prog Tryd.f7 Rows.fnExactGroundOfRow.domain false w args ∧ laidMetH Tryd.prog laidL w) ∧ sizedMet enc Tryd.prog Tryd.f7 (OpenSpec.ofChange Rows.fnExactGroundOfSpec) false w args)
      (Rows.fnExactGroundOfSpec.post enc Tryd.prog Tryd.f7 false true false false) := by
  refine returnsInHanded_of_change_and (C := Tryd.checked) (X := fun w _ => laidMetH Tryd.prog laidL w) (fun _ _ _ hh h => h.of_heap hh) own started (by kernel_rfl) Tryd.func7
    (ChangeSpec.witness_shaped (enc := enc) (C := Tryd.checked) (os := os) (X := fun w _ => laidMetH Tryd.prog laidL w) false (World.doorLaid Tryd.prog 400 os) #[.agg #[.int .i64 0, .int .i64 0, .int .i64 0, .int .i64 0, .int .i64 0, .int .i64 0, .int .i64 0, .int .i64 0, .int .i64 0, .int .i64 0, .int .i64 0, .int .i64 0, .int .i64 0, .int .i64 0, .int .i64 0]] 8 rfl (World.shaped_of_RefB (by kernel_rfl) (by kernel_rfl)) (by kernel_rfl) (by kernel_rfl) (by kernel_rfl) (door_met os _)) ?_
  intro W base args ds gs before hval0 hW _ hsz0 hL _
  have hval : ∀ (j : Nat) t v, Tryd.f7.params[j]? = some t → args[j]? = some v → Value.okWide Tryd.prog W .any base t v := hval0
  have hW' := hW
  obtain ⟨p, q, hA0, hV, rfl, hfz, hnd⟩ := hW
  have hA : DataW.TrodAll enc Tryd.prog W 0 (fun _ => true) true Tryd.f7.params.toList args.toList ds p := hA0
  rw [Tryd.params7] at hA hval
  obtain ⟨v0, vs0, d0, ds0, p0, q0, hargs, rfl, rfl, h0, r0⟩ := trodAll_cons hA
  obtain ⟨rfl, rfl, rfl⟩ := trodAll_nil r0
  obtain rfl : args = #[v0] := by cases args; simp_all
  obtain ⟨gv0, gv1, hgs⟩ := readings hV
  subst hgs
  have k0 := h0
  have lt0 : ∀ x ∈ p0, x.block < W.heap.size := by obtain ⟨m, hm⟩ := k0; exact DataW.trod_lt m _ _ _ hm
  obtain ⟨a0_0, a0_1, a0_2, a0_3, a0_4, a0_5, a0_6, a0_7, a0_8, a0_9, a0_10, a0_11, a0_12, a0_13, a0_14, rfl, w0⟩ : ∃ a0_0 a0_1 a0_2 a0_3 a0_4 a0_5 a0_6 a0_7 a0_8 a0_9 a0_10 a0_11 a0_12 a0_13 a0_14 : Int, v0 = .agg #[.int .i64 a0_0, .int .i64 a0_1, .int .i64 a0_2, .int .i64 a0_3, .int .i64 a0_4, .int .i64 a0_5, .int .i64 a0_6, .int .i64 a0_7, .int .i64 a0_8, .int .i64 a0_9, .int .i64 a0_10, .int .i64 a0_11, .int .i64 a0_12, .int .i64 a0_13, .int .i64 a0_14] ∧ ∀ z ∈ [a0_0, a0_1, a0_2, a0_3, a0_4, a0_5, a0_6, a0_7, a0_8, a0_9, a0_10, a0_11, a0_12, a0_13, a0_14], (Lit.int .i64 z).wf = true := by
    obtain ⟨zs, hl, rfl, hw⟩ := flat_open (n := 15) Tryd.underlying54 (by kernel_rfl) (by kernel_rfl) (hval 0 54 v0 rfl rfl) h0
    obtain ⟨a0_0, a0_1, a0_2, a0_3, a0_4, a0_5, a0_6, a0_7, a0_8, a0_9, a0_10, a0_11, a0_12, a0_13, a0_14, rfl⟩ := cells15 hl
    exact ⟨a0_0, a0_1, a0_2, a0_3, a0_4, a0_5, a0_6, a0_7, a0_8, a0_9, a0_10, a0_11, a0_12, a0_13, a0_14, rfl, hw⟩
  clear hA0 hval0
  refine (walk a0_0 a0_1 a0_2 a0_3 a0_4 a0_5 a0_6 a0_7 a0_8 a0_9 a0_10 a0_11 a0_12 a0_13 a0_14 w0 W hL).mono fun e W' ⟨he, bel⟩ => ?_
  subst he
  exact ⟨_, rfl, _, _, _, [], _, q, hW', (trodAll_cons_mk (shut_bool Tryd.underlying4 _) trodAll_mk0), (trodAll_cons_mk (Below.trod (by kernel_rfl) (by kernel_rfl) (of_decide_eq_true (by kernel_rfl)) k0 bel lt0) trodAll_mk0), Below.trodVars (by kernel_rfl) bel (by kernel_rfl) hV, bel.frame _, fun h => by cases h⟩

theorem over : Rows.fnExactGroundOfRow.holds Tryd.pinned (OpenSpec.ofChange Rows.fnExactGroundOfSpec) :=
  OpenClaim.holds_of_wide 7 Tryd.f7 rfl rfl rfl rfl rfl rfl rfl ⟨rfl, rfl, rfl, rfl, rfl⟩ rfl rfl rfl rfl rfl (by kernel_rfl) Tryd.func7 (by kernel_rfl)
    (of_decide_eq_true (by kernel_rfl)) (by unfold Func.isWrapper; first | (rw [if_pos (by decide +kernel)]; kernel_rfl) | (rw [if_neg (by decide +kernel)]; exact ⟨rfl, rfl⟩))
    (fun os started H enc _ => lifted os started H enc)

/-- The row's statement. -/
theorem proved : Rows.FnExactGroundOfSaid :=
  over

/-- THE TIED CARD: the listed variables are those that the program's own text lays. -/
theorem card : Rows.FnExactGroundOfCardSaid :=
  Claim7.holds_tied_plain_at .later [] [.data, .widerDeep] true (true, "c9407b8927502c6278181878e412d93467e68ec0650dd3c6c23d90e8e67f75ef") false
    proved (fun _ h => by cases h) (by kernel_rfl) (fun _ h => by cases h) fnExactGroundOf_row_tie rfl ⟨rfl, rfl⟩ (by kernel_rfl) rfl
    (fun f fn hf hfn => by
      obtain rfl : f = 7 := Option.some.inj ((show Tryd.prog.funcNamed "loop.example/g00884/laws.FnExactGroundOf" = some 7 by kernel_rfl).symm.trans hf) |>.symm
      obtain rfl : fn = Tryd.f7 := (Option.some.inj (Tryd.func7.symm.trans hfn)).symm
      exact ⟨by kernel_rfl, fun j t ht => by
        rw [Tryd.params7] at ht
        have hm : t ∈ [54] := by
          have := Array.mem_of_getElem? ht
          first | simpa using this | (simp at this ⊢; omega) | (simp at this ⊢; rcases this with h | h <;> simp [h])
        have hall : ([54].all fun u => !Tryd.prog.wantsStandIn u) = true := by kernel_rfl
        exact (show Tryd.prog.wantsStandIn t = false by simpa using List.all_eq_true.1 hall t hm)⟩)
    (by kernel_rfl)
#print axioms card
end Go.Proofs.YthapidnjioindaaDoor.fnExactGroundOf
