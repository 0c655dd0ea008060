/- FnExactPlaceCharges: at every arms, valid or not, the law returns true: PlaceCharges of the program answers as its model does, in memory of its own. The card ties the tables of attitudes and of offsets to the program's text, and the library's of TrailingZeros. No condition. -/
import Derived.Test.YthapidnjioindaaDoorRows
import Derived.Test.YthapidnjioindaaDoorCards
import Derived.Test.YthapidnjioindaaDoorTie
import Derived.WalkKit
import Derived.ProofKit
import Derived.OpenShut
import Derived.ShutString
import Derived.Test.YthapidnjioindaaDoorC11Z
import Derived.Test.YthapidnjioindaaDoorC11V
import Derived.LaidMore
import Derived.Stop.Joined
import Derived.SevenTiedAt
import Derived.OpenVars
import Derived.ChangeVars
import Derived.Below
import Derived.Test.YthapidnjioindaaDoorFlat
namespace Go.Proofs.YthapidnjioindaaDoor.fnExactPlaceCharges
open Go.ChangeShapes Go.WideShapes Go.ChangeAt Go.RowKit
open Go.ChangeMaps (open_string shut_string)
set_option linter.unusedVariables false      -- a walk need not use every 'w<i>' (that an integer argument fits its kind)

theorem cells15 {zs : List Int} (h : zs.length = 15) : ∃ x0 x1 x2 x3 x4 x5 x6 x7 x8 x9 x10 x11 x12 x13 x14 : Int, zs = [x0, x1, x2, x3, x4, x5, x6, x7, x8, x9, x10, x11, x12, x13, x14] := by
  match zs, h with
  | [x0, x1, x2, x3, x4, x5, x6, x7, x8, x9, x10, x11, x12, x13, x14], _ => exact ⟨x0, x1, x2, x3, x4, x5, x6, x7, x8, x9, x10, x11, x12, x13, x14, rfl⟩

def laidL : List (String × DataW Unit) := [("math/bits.deBruijn32tab", Rows.laid_math_bits_deBruijn32tab), ("math/bits.deBruijn64tab", Rows.laid_math_bits_deBruijn64tab), ("loop.example/g00884/impl.lineOffsets", Rows.laid_loop_example_g00884_impl_lineOffsets), ("loop.example/g00884/impl.attitudeWords", Rows.laid_loop_example_g00884_impl_attitudeWords)]

/-- The door's own heap meets the condition. -/
theorem door_met (os : Os) (args : Array Value) : laidMetH Tryd.prog laidL ((World.doorLaid Tryd.prog 400 os).forCall (fun _ _ => 0) ⟨#[], args, []⟩).memory :=
  laidMetH_of_parts3 (fuel := 8) (laidMet_of_run' 8 (by kernel_rfl) (by kernel_rfl)) (by kernel_rfl) (by kernel_rfl)

theorem readings {H : Type} {enc : TypeId × Value → H} {P : Program} {w : World} {spare : Nat → Bool} {n0 n1 : String} {gs : List (DataW H)} {ps : List MemPlace} (h : DataW.TrodVars enc P w spare [n0, n1] gs ps) : ∃ gv0 gv1 : DataW H, gs = [gv0, gv1] := by
  cases gs with
  | nil => simp [DataW.TrodVars] at h
  | cons g0 gs =>
  obtain ⟨_, _, _, _, _, _, _, _, _, _, h, _⟩ := h
  cases gs with
  | nil => simp [DataW.TrodVars] at h
  | cons g1 gs =>
  obtain ⟨_, _, _, _, _, _, _, _, _, _, h, _⟩ := h
  obtain ⟨rfl, _⟩ := trodVars_none h
  exact ⟨g0, g1, rfl⟩

theorem own : ownKnob Tryd.prog.godebug = none := by kernel_rfl

/-! ### STEP 1: THE WALK: the Go text returns true. 'Grown w w'': the world has at most new blocks (Derived/RowKit3.lean). Part the cases AHEAD of 'go_enter' where a test parts the walk; take each callee by a contract of your own. -/
set_option maxHeartbeats 16000000 in
set_option maxRecDepth 100000 in
theorem walk (a0_0 a0_1 a0_2 a0_3 a0_4 a0_5 a0_6 a0_7 a0_8 a0_9 a0_10 a0_11 a0_12 a0_13 a0_14 : Int) (w0 : ∀ z ∈ [a0_0, a0_1, a0_2, a0_3, a0_4, a0_5, a0_6, a0_7, a0_8, a0_9, a0_10, a0_11, a0_12, a0_13, a0_14], (Lit.int .i64 z).wf = true) (w : World) (hL : laidMetH Tryd.prog laidL w) :
    Calls Tryd.prog 8 #[.agg #[.int .i64 a0_0, .int .i64 a0_1, .int .i64 a0_2, .int .i64 a0_3, .int .i64 a0_4, .int .i64 a0_5, .int .i64 a0_6, .int .i64 a0_7, .int .i64 a0_8, .int .i64 a0_9, .int .i64 a0_10, .int .i64 a0_11, .int .i64 a0_12, .int .i64 a0_13, .int .i64 a0_14]] w fun e w' => e = .returned (.bool true) ∧ Below w.heap.size w w' := by
  have hA : AttsLie w := attsOf (by kernel_rfl) hL
  have hO : OffsLie w := offsOf (by kernel_rfl) hL
  have hT : TzT w := tzOf (by kernel_rfl) hL
  obtain ⟨r, hr⟩ : ∃ r, aOkB a0_0 a0_1 a0_2 a0_3 a0_4 a0_5 a0_6 a0_7 a0_8 a0_9 a0_10 a0_11 a0_12 a0_13 a0_14 = r := ⟨_, rfl⟩
  have hle := plO_le r a0_4 a0_5 a0_7 a0_8 a0_9 a0_10 a0_11 a0_12 a0_13 a0_14
  have CS := fun W => place_spec a0_0 a0_1 a0_2 a0_3 a0_4 a0_5 a0_6 a0_7 a0_8 a0_9 a0_10 a0_11 a0_12 a0_13 a0_14 W r hr
  have CI := fun W (hb : Below w.heap.size w W) => place_impl a0_0 a0_1 a0_2 a0_3 a0_4 a0_5 a0_6 a0_7 a0_8 a0_9 a0_10 a0_11 a0_12 a0_13 a0_14 W r hr (hA.below hb) (hO.below hb) (hT.below hb)
  unfold AnsP at CS CI
  generalize plO r a0_4 a0_5 a0_7 a0_8 a0_9 a0_10 a0_11 a0_12 a0_13 a0_14 = P at *
  obtain ⟨X, hX⟩ : ∃ X, (P.getD ([], [])).1 = X := ⟨_, rfl⟩
  obtain ⟨Y, hY⟩ : ∃ Y, (P.getD ([], [])).2 = Y := ⟨_, rfl⟩
  obtain ⟨ok, hok⟩ : ∃ ok, P.isSome = ok := ⟨_, rfl⟩
  rw [hX, hY] at hle
  rw [hX, hY, hok] at CS CI
  obtain ⟨hx, hy⟩ := hle
  have HS := Lib.hid CS
  have HI := Lib.hid CI
  have eok : (ok != ok) = false := by simp
  have e1 : decide ((1 : Int) + (X.length : Int) * 3 < 0) = false := by simp; omega
  have e2 : decide ((1 : Int) + (X.length : Int) * 3 + (Y.length : Int) * 3 < 0) = false := by simp; omega
  have e3 : ((1 : Int) + (X.length : Int) * 3 + (Y.length : Int) * 3 != 1 + (X.length : Int) * 3 + (Y.length : Int) * 3) = false := by simp
  have HB := Lib.hid ((Below.refl w.heap.size w).alloc (Nat.le_refl _) (.cells #[.int .i64 a0_0, .int .i64 a0_1, .int .i64 a0_2, .int .i64 a0_3, .int .i64 a0_4, .int .i64 a0_5, .int .i64 a0_6, .int .i64 a0_7, .int .i64 a0_8, .int .i64 a0_9, .int .i64 a0_10, .int .i64 a0_11, .int .i64 a0_12, .int .i64 a0_13, .int .i64 a0_14] 54 (0, 0)))
  have B_arg0 := Lib.hid (BoxF.new w [.int .i64 a0_0, .int .i64 a0_1, .int .i64 a0_2, .int .i64 a0_3, .int .i64 a0_4, .int .i64 a0_5, .int .i64 a0_6, .int .i64 a0_7, .int .i64 a0_8, .int .i64 a0_9, .int .i64 a0_10, .int .i64 a0_11, .int .i64 a0_12, .int .i64 a0_13, .int .i64 a0_14] 54)
  clear CS CI hA hO hT hL hr hX hY hok
  go_enter Tryd.func8, Tryd.ntmps8
  have r_ := rangeB B_arg0.out
  go_wp2_with (with_reducible refine aList ?_; refine ldL 1 w.heap.size [.int .i64 a0_0, .int .i64 a0_1, .int .i64 a0_2, .int .i64 a0_3, .int .i64 a0_4, .int .i64 a0_5, .int .i64 a0_6, .int .i64 a0_7, .int .i64 a0_8, .int .i64 a0_9, .int .i64 a0_10, .int .i64 a0_11, .int .i64 a0_12, .int .i64 a0_13, .int .i64 a0_14] rfl rfl rfl rfl ?_ ?_; exact r_)
  clear r_
  refine (toArms_any a0_0 a0_1 a0_2 a0_3 a0_4 a0_5 a0_6 a0_7 a0_8 a0_9 a0_10 a0_11 a0_12 a0_13 a0_14 _).mono ?_
  rintro e w1 ⟨rfl, hb_⟩
  have z_w1 := hb_.size
  try simp only [World.size_alloc] at z_w1
  have B_arg0_ := Lib.hid (B_arg0.out.below hb_)
  have HB_ := Lib.hid (HB.out.trans (hb_.mono HB.out.size))
  clear B_arg0 HB
  have B_arg0 := B_arg0_
  have HB := HB_
  clear B_arg0_ HB_
  clear hb_
  go_wp2_with fail
  refine (HS.out _).mono ?_
  rintro e w2 ⟨a_s1, c_s1, a_s2, c_s2, rfl, h1_, h2_, ap_s, hb_⟩
  have l_s1 : ∀ q, (Value.slice a_s1 X.length c_s1).ownBlock = some q → _ := fun q hq => World.ownsRow.lt h1_ q hq
  have l_s2 : ∀ q, (Value.slice a_s2 Y.length c_s2).ownBlock = some q → _ := fun q hq => World.ownsRow.lt h2_ q hq
  have z_w2 := hb_.size
  try simp only [World.size_alloc] at l_s1 l_s2 z_w2
  have B_arg0_ := Lib.hid (B_arg0.out.below hb_)
  have HB_ := Lib.hid (HB.out.trans (hb_.mono HB.out.size))
  clear B_arg0 HB
  have B_arg0 := B_arg0_
  have HB := HB_
  clear B_arg0_ HB_
  have V_s1 := Lib.hid h1_
  have V_s2 := Lib.hid h2_
  clear h1_ h2_ hb_
  have r_ := rangeB B_arg0.out
  go_wp2_with (with_reducible refine aList ?_; refine ldL 1 w.heap.size [.int .i64 a0_0, .int .i64 a0_1, .int .i64 a0_2, .int .i64 a0_3, .int .i64 a0_4, .int .i64 a0_5, .int .i64 a0_6, .int .i64 a0_7, .int .i64 a0_8, .int .i64 a0_9, .int .i64 a0_10, .int .i64 a0_11, .int .i64 a0_12, .int .i64 a0_13, .int .i64 a0_14] rfl rfl rfl rfl ?_ ?_; exact r_)
  clear r_
  refine (toArms_any a0_0 a0_1 a0_2 a0_3 a0_4 a0_5 a0_6 a0_7 a0_8 a0_9 a0_10 a0_11 a0_12 a0_13 a0_14 _).mono ?_
  rintro e w3 ⟨rfl, hb_⟩
  have z_w3 := hb_.size
  try simp only [World.size_alloc] at z_w3
  have B_arg0_ := Lib.hid (B_arg0.out.below hb_)
  have V_s1_ := Lib.hid (V_s1.out.below hb_)
  have V_s2_ := Lib.hid (V_s2.out.below hb_)
  have HB_ := Lib.hid (HB.out.trans (hb_.mono HB.out.size))
  clear B_arg0 V_s1 V_s2 HB
  have B_arg0 := B_arg0_
  have V_s1 := V_s1_
  have V_s2 := V_s2_
  have HB := HB_
  clear B_arg0_ V_s1_ V_s2_ HB_
  clear hb_
  go_wp2_with fail
  have z_g := HB.out.size
  refine (HI.out _ HB.out).mono ?_
  rintro e w4 ⟨a_g1, c_g1, a_g2, c_g2, rfl, h1_, h2_, ap_g, hb_⟩
  have l_g1 : ∀ q, (Value.slice a_g1 X.length c_g1).ownBlock = some q → _ := fun q hq => World.ownsRow.lt h1_ q hq
  have l_g2 : ∀ q, (Value.slice a_g2 Y.length c_g2).ownBlock = some q → _ := fun q hq => World.ownsRow.lt h2_ q hq
  have z_w4 := hb_.size
  try simp only [World.size_alloc] at l_g1 l_g2 z_w4
  have B_arg0_ := Lib.hid (B_arg0.out.below hb_)
  have V_s1_ := Lib.hid (V_s1.out.below hb_)
  have V_s2_ := Lib.hid (V_s2.out.below hb_)
  have HB_ := Lib.hid (HB.out.trans (hb_.mono HB.out.size))
  clear B_arg0 V_s1 V_s2 HB
  have B_arg0 := B_arg0_
  have V_s1 := V_s1_
  have V_s2 := V_s2_
  have HB := HB_
  clear B_arg0_ V_s1_ V_s2_ HB_
  have V_g1 := Lib.hid h1_
  have V_g2 := Lib.hid h2_
  clear h1_ h2_ hb_
  go_wp2_with fail
  refine (eqBoxS_true X X.length a_g1 a_s1 c_g1 c_s1 _ V_g1.out.rd V_s1.out.rd (by omega)).mono ?_
  rintro e w5 ⟨rfl, hb_⟩
  have z_w5 := hb_.size
  try simp only [World.size_alloc] at z_w5
  have B_arg0_ := Lib.hid (B_arg0.out.below hb_)
  have V_s1_ := Lib.hid (V_s1.out.below hb_)
  have V_s2_ := Lib.hid (V_s2.out.below hb_)
  have V_g1_ := Lib.hid (V_g1.out.below hb_)
  have V_g2_ := Lib.hid (V_g2.out.below hb_)
  have HB_ := Lib.hid (HB.out.trans (hb_.mono HB.out.size))
  clear B_arg0 V_s1 V_s2 V_g1 V_g2 HB
  have B_arg0 := B_arg0_
  have V_s1 := V_s1_
  have V_s2 := V_s2_
  have V_g1 := V_g1_
  have V_g2 := V_g2_
  have HB := HB_
  clear B_arg0_ V_s1_ V_s2_ V_g1_ V_g2_ HB_
  clear hb_
  go_wp2_with fail
  refine (eqBoxS_true Y Y.length a_g2 a_s2 c_g2 c_s2 _ V_g2.out.rd V_s2.out.rd (by omega)).mono ?_
  rintro e w6 ⟨rfl, hb_⟩
  have z_w6 := hb_.size
  try simp only [World.size_alloc] at z_w6
  have B_arg0_ := Lib.hid (B_arg0.out.below hb_)
  have V_s1_ := Lib.hid (V_s1.out.below hb_)
  have V_s2_ := Lib.hid (V_s2.out.below hb_)
  have V_g1_ := Lib.hid (V_g1.out.below hb_)
  have V_g2_ := Lib.hid (V_g2.out.below hb_)
  have HB_ := Lib.hid (HB.out.trans (hb_.mono HB.out.size))
  clear B_arg0 V_s1 V_s2 V_g1 V_g2 HB
  have B_arg0 := B_arg0_
  have V_s1 := V_s1_
  have V_s2 := V_s2_
  have V_g1 := V_g1_
  have V_g2 := V_g2_
  have HB := HB_
  clear B_arg0_ V_s1_ V_s2_ V_g1_ V_g2_ HB_
  clear hb_
  go_wp2_with fail
  refine (markB_at X _ c_g1 a_g1 (1) _ V_g1.out (by omega) (by omega) (by omega)).mono ?_
  rintro e w7 ⟨rfl, ho_, hg_⟩
  have z_w7 := hg_.size
  try simp only [World.size_alloc] at z_w7
  clear V_g1
  have B_arg0_ := Lib.hid (B_arg0.out.kept hg_ (by intro e; have h2 := l_g1 _ e.symm; omega))
  have V_s1_ := Lib.hid (V_s1.out.kept hg_ (by
    cases hq : (Value.slice a_s1 X.length c_s1).ownBlock with
    | none => exact .inl rfl
    | some q => refine .inr ?_; intro e; have h1 := l_s1 q hq; have h2 := l_g1 q e.symm; omega))
  have V_s2_ := Lib.hid (V_s2.out.kept hg_ (by
    cases hq : (Value.slice a_s2 Y.length c_s2).ownBlock with
    | none => exact .inl rfl
    | some q => refine .inr ?_; intro e; have h1 := l_s2 q hq; have h2 := l_g1 q e.symm; omega))
  have V_g2_ := Lib.hid (V_g2.out.kept hg_ (by
    cases hq : (Value.slice a_g2 Y.length c_g2).ownBlock with
    | none => exact .inl rfl
    | some q => refine .inr ?_; intro e; exact ap_g q e.symm hq))
  have HB_ := Lib.hid (HB.out.grown hg_ HB.out.size (fun q hq => by have := l_g1 q hq; omega))
  clear B_arg0 V_s1 V_s2 V_g2 HB
  have B_arg0 := B_arg0_
  have V_s1 := V_s1_
  have V_s2 := V_s2_
  have V_g2 := V_g2_
  have HB := HB_
  clear B_arg0_ V_s1_ V_s2_ V_g2_ HB_
  have H_g1 := Lib.hid ho_
  clear ho_ hg_
  go_wp2_with fail
  refine (markB_at Y _ c_g2 a_g2 (1 + (X.length : Int) * 3) _ V_g2.out (by omega) (by omega) (by omega)).mono ?_
  rintro e w8 ⟨rfl, ho_, hg_⟩
  have z_w8 := hg_.size
  try simp only [World.size_alloc] at z_w8
  clear V_g2
  have B_arg0_ := Lib.hid (B_arg0.out.kept hg_ (by intro e; have h2 := l_g2 _ e.symm; omega))
  have V_s1_ := Lib.hid (V_s1.out.kept hg_ (by
    cases hq : (Value.slice a_s1 X.length c_s1).ownBlock with
    | none => exact .inl rfl
    | some q => refine .inr ?_; intro e; have h1 := l_s1 q hq; have h2 := l_g2 q e.symm; omega))
  have V_s2_ := Lib.hid (V_s2.out.kept hg_ (by
    cases hq : (Value.slice a_s2 Y.length c_s2).ownBlock with
    | none => exact .inl rfl
    | some q => refine .inr ?_; intro e; have h1 := l_s2 q hq; have h2 := l_g2 q e.symm; omega))
  have H_g1_ := Lib.hid (H_g1.out.kept hg_ (fun b o ea e => ap_g b (by rw [ea]; rfl) e.symm))
  have HB_ := Lib.hid (HB.out.grown hg_ HB.out.size (fun q hq => by have := l_g2 q hq; omega))
  clear B_arg0 V_s1 V_s2 H_g1 HB
  have B_arg0 := B_arg0_
  have V_s1 := V_s1_
  have V_s2 := V_s2_
  have H_g1 := H_g1_
  have HB := HB_
  clear B_arg0_ V_s1_ V_s2_ H_g1_ HB_
  have H_g2 := Lib.hid ho_
  clear ho_ hg_
  go_wp2_with fail
  refine (heldB_at X.length a_g1 c_g1 1 _ H_g1.out (by omega) (by omega) (by omega)).mono ?_
  rintro e w9 ⟨rfl, hb_⟩
  have z_w9 := hb_.size
  try simp only [World.size_alloc] at z_w9
  have B_arg0_ := Lib.hid (B_arg0.out.below hb_)
  have V_s1_ := Lib.hid (V_s1.out.below hb_)
  have V_s2_ := Lib.hid (V_s2.out.below hb_)
  have H_g1_ := Lib.hid (H_g1.out.below hb_)
  have H_g2_ := Lib.hid (H_g2.out.below hb_)
  have HB_ := Lib.hid (HB.out.trans (hb_.mono HB.out.size))
  clear B_arg0 V_s1 V_s2 H_g1 H_g2 HB
  have B_arg0 := B_arg0_
  have V_s1 := V_s1_
  have V_s2 := V_s2_
  have H_g1 := H_g1_
  have H_g2 := H_g2_
  have HB := HB_
  clear B_arg0_ V_s1_ V_s2_ H_g1_ H_g2_ HB_
  clear hb_
  go_wp2_with fail
  refine (heldB_at Y.length a_g2 c_g2 (1 + (X.length : Int) * 3) _ H_g2.out (by omega) (by omega) (by omega)).mono ?_
  rintro e w10 ⟨rfl, hb_⟩
  have z_w10 := hb_.size
  try simp only [World.size_alloc] at z_w10
  have B_arg0_ := Lib.hid (B_arg0.out.below hb_)
  have V_s1_ := Lib.hid (V_s1.out.below hb_)
  have V_s2_ := Lib.hid (V_s2.out.below hb_)
  have H_g1_ := Lib.hid (H_g1.out.below hb_)
  have H_g2_ := Lib.hid (H_g2.out.below hb_)
  have HB_ := Lib.hid (HB.out.trans (hb_.mono HB.out.size))
  clear B_arg0 V_s1 V_s2 H_g1 H_g2 HB
  have B_arg0 := B_arg0_
  have V_s1 := V_s1_
  have V_s2 := V_s2_
  have H_g1 := H_g1_
  have H_g2 := H_g2_
  have HB := HB_
  clear B_arg0_ V_s1_ V_s2_ H_g1_ H_g2_ HB_
  clear hb_
  have r_ := rangeB B_arg0.out
  go_wp2_with (with_reducible refine aList ?_; refine ldL 1 w.heap.size [.int .i64 a0_0, .int .i64 a0_1, .int .i64 a0_2, .int .i64 a0_3, .int .i64 a0_4, .int .i64 a0_5, .int .i64 a0_6, .int .i64 a0_7, .int .i64 a0_8, .int .i64 a0_9, .int .i64 a0_10, .int .i64 a0_11, .int .i64 a0_12, .int .i64 a0_13, .int .i64 a0_14] rfl rfl rfl rfl ?_ ?_; exact r_)
  clear r_
  refine (toArms_any a0_0 a0_1 a0_2 a0_3 a0_4 a0_5 a0_6 a0_7 a0_8 a0_9 a0_10 a0_11 a0_12 a0_13 a0_14 _).mono ?_
  rintro e w11 ⟨rfl, hb_⟩
  have z_w11 := hb_.size
  try simp only [World.size_alloc] at z_w11
  have B_arg0_ := Lib.hid (B_arg0.out.below hb_)
  have V_s1_ := Lib.hid (V_s1.out.below hb_)
  have V_s2_ := Lib.hid (V_s2.out.below hb_)
  have H_g1_ := Lib.hid (H_g1.out.below hb_)
  have H_g2_ := Lib.hid (H_g2.out.below hb_)
  have HB_ := Lib.hid (HB.out.trans (hb_.mono HB.out.size))
  clear B_arg0 V_s1 V_s2 H_g1 H_g2 HB
  have B_arg0 := B_arg0_
  have V_s1 := V_s1_
  have V_s2 := V_s2_
  have H_g1 := H_g1_
  have H_g2 := H_g2_
  have HB := HB_
  clear B_arg0_ V_s1_ V_s2_ H_g1_ H_g2_ HB_
  clear hb_
  go_wp2_with fail
  refine (HI.out _ HB.out).mono ?_
  rintro e w12 ⟨a_h1, c_h1, a_h2, c_h2, rfl, h1_, h2_, ap_h, hb_⟩
  have l_h1 : ∀ q, (Value.slice a_h1 X.length c_h1).ownBlock = some q → _ := fun q hq => World.ownsRow.lt h1_ q hq
  have l_h2 : ∀ q, (Value.slice a_h2 Y.length c_h2).ownBlock = some q → _ := fun q hq => World.ownsRow.lt h2_ q hq
  have z_w12 := hb_.size
  try simp only [World.size_alloc] at l_h1 l_h2 z_w12
  have B_arg0_ := Lib.hid (B_arg0.out.below hb_)
  have V_s1_ := Lib.hid (V_s1.out.below hb_)
  have V_s2_ := Lib.hid (V_s2.out.below hb_)
  have H_g1_ := Lib.hid (H_g1.out.below hb_)
  have H_g2_ := Lib.hid (H_g2.out.below hb_)
  have HB_ := Lib.hid (HB.out.trans (hb_.mono HB.out.size))
  clear B_arg0 V_s1 V_s2 H_g1 H_g2 HB
  have B_arg0 := B_arg0_
  have V_s1 := V_s1_
  have V_s2 := V_s2_
  have H_g1 := H_g1_
  have H_g2 := H_g2_
  have HB := HB_
  clear B_arg0_ V_s1_ V_s2_ H_g1_ H_g2_ HB_
  have V_h1 := Lib.hid h1_
  have V_h2 := Lib.hid h2_
  clear h1_ h2_ hb_
  go_wp2_with fail
  refine (eqBoxS_true X X.length a_h1 a_s1 c_h1 c_s1 _ V_h1.out.rd V_s1.out.rd (by omega)).mono ?_
  rintro e w13 ⟨rfl, hb_⟩
  have z_w13 := hb_.size
  try simp only [World.size_alloc] at z_w13
  have B_arg0_ := Lib.hid (B_arg0.out.below hb_)
  have V_s1_ := Lib.hid (V_s1.out.below hb_)
  have V_s2_ := Lib.hid (V_s2.out.below hb_)
  have H_g1_ := Lib.hid (H_g1.out.below hb_)
  have H_g2_ := Lib.hid (H_g2.out.below hb_)
  have V_h1_ := Lib.hid (V_h1.out.below hb_)
  have V_h2_ := Lib.hid (V_h2.out.below hb_)
  have HB_ := Lib.hid (HB.out.trans (hb_.mono HB.out.size))
  clear B_arg0 V_s1 V_s2 H_g1 H_g2 V_h1 V_h2 HB
  have B_arg0 := B_arg0_
  have V_s1 := V_s1_
  have V_s2 := V_s2_
  have H_g1 := H_g1_
  have H_g2 := H_g2_
  have V_h1 := V_h1_
  have V_h2 := V_h2_
  have HB := HB_
  clear B_arg0_ V_s1_ V_s2_ H_g1_ H_g2_ V_h1_ V_h2_ HB_
  clear hb_
  go_wp2_with fail
  refine (eqBoxS_true Y Y.length a_h2 a_s2 c_h2 c_s2 _ V_h2.out.rd V_s2.out.rd (by omega)).mono ?_
  rintro e w14 ⟨rfl, hb_⟩
  have z_w14 := hb_.size
  try simp only [World.size_alloc] at z_w14
  have B_arg0_ := Lib.hid (B_arg0.out.below hb_)
  have V_s1_ := Lib.hid (V_s1.out.below hb_)
  have V_s2_ := Lib.hid (V_s2.out.below hb_)
  have H_g1_ := Lib.hid (H_g1.out.below hb_)
  have H_g2_ := Lib.hid (H_g2.out.below hb_)
  have V_h1_ := Lib.hid (V_h1.out.below hb_)
  have V_h2_ := Lib.hid (V_h2.out.below hb_)
  have HB_ := Lib.hid (HB.out.trans (hb_.mono HB.out.size))
  clear B_arg0 V_s1 V_s2 H_g1 H_g2 V_h1 V_h2 HB
  have B_arg0 := B_arg0_
  have V_s1 := V_s1_
  have V_s2 := V_s2_
  have H_g1 := H_g1_
  have H_g2 := H_g2_
  have V_h1 := V_h1_
  have V_h2 := V_h2_
  have HB := HB_
  clear B_arg0_ V_s1_ V_s2_ H_g1_ H_g2_ V_h1_ V_h2_ HB_
  clear hb_
  go_wp2_with fail
  refine (heldB_at X.length a_g1 c_g1 1 _ H_g1.out (by omega) (by omega) (by omega)).mono ?_
  rintro e w15 ⟨rfl, hb_⟩
  have z_w15 := hb_.size
  try simp only [World.size_alloc] at z_w15
  have B_arg0_ := Lib.hid (B_arg0.out.below hb_)
  have V_s1_ := Lib.hid (V_s1.out.below hb_)
  have V_s2_ := Lib.hid (V_s2.out.below hb_)
  have H_g1_ := Lib.hid (H_g1.out.below hb_)
  have H_g2_ := Lib.hid (H_g2.out.below hb_)
  have V_h1_ := Lib.hid (V_h1.out.below hb_)
  have V_h2_ := Lib.hid (V_h2.out.below hb_)
  have HB_ := Lib.hid (HB.out.trans (hb_.mono HB.out.size))
  clear B_arg0 V_s1 V_s2 H_g1 H_g2 V_h1 V_h2 HB
  have B_arg0 := B_arg0_
  have V_s1 := V_s1_
  have V_s2 := V_s2_
  have H_g1 := H_g1_
  have H_g2 := H_g2_
  have V_h1 := V_h1_
  have V_h2 := V_h2_
  have HB := HB_
  clear B_arg0_ V_s1_ V_s2_ H_g1_ H_g2_ V_h1_ V_h2_ HB_
  clear hb_
  go_wp2_with fail
  refine (heldB_at Y.length a_g2 c_g2 (1 + (X.length : Int) * 3) _ H_g2.out (by omega) (by omega) (by omega)).mono ?_
  rintro e w16 ⟨rfl, hb_⟩
  have z_w16 := hb_.size
  try simp only [World.size_alloc] at z_w16
  have B_arg0_ := Lib.hid (B_arg0.out.below hb_)
  have V_s1_ := Lib.hid (V_s1.out.below hb_)
  have V_s2_ := Lib.hid (V_s2.out.below hb_)
  have H_g1_ := Lib.hid (H_g1.out.below hb_)
  have H_g2_ := Lib.hid (H_g2.out.below hb_)
  have V_h1_ := Lib.hid (V_h1.out.below hb_)
  have V_h2_ := Lib.hid (V_h2.out.below hb_)
  have HB_ := Lib.hid (HB.out.trans (hb_.mono HB.out.size))
  clear B_arg0 V_s1 V_s2 H_g1 H_g2 V_h1 V_h2 HB
  have B_arg0 := B_arg0_
  have V_s1 := V_s1_
  have V_s2 := V_s2_
  have H_g1 := H_g1_
  have H_g2 := H_g2_
  have V_h1 := V_h1_
  have V_h2 := V_h2_
  have HB := HB_
  clear B_arg0_ V_s1_ V_s2_ H_g1_ H_g2_ V_h1_ V_h2_ HB_
  clear hb_
  go_wp2_with fail
  go_ret
  exact ⟨rfl, HB.out⟩

/-! ### THE ROW's STEP: WRITTEN OUT: LEAVE IT -/
set_option maxRecDepth 100000 in
set_option maxHeartbeats 4000000 in
theorem lifted (os : Os) (started : os.Started) (H : Type) (enc : TypeId × Value → H) :
    ReturnsInHanded {} Tryd.checked os 8 .any (fun w args => (Rows.fnExactPlaceChargesSpec.pre enc Tryd.prog Tryd.f8 Rows.fnExactPlaceChargesRow.domain false w args ∧ laidMetH Tryd.prog laidL w) ∧ sizedMet enc Tryd.prog Tryd.f8 (OpenSpec.ofChange Rows.fnExactPlaceChargesSpec) false w args)
      (Rows.fnExactPlaceChargesSpec.post enc Tryd.prog Tryd.f8 false true false false) := by
  refine returnsInHanded_of_change_and (C := Tryd.checked) (X := fun w _ => laidMetH Tryd.prog laidL w) (fun _ _ _ hh h => h.of_heap hh) own started (by kernel_rfl) Tryd.func8
    (ChangeSpec.witness_shaped (enc := enc) (C := Tryd.checked) (os := os) (X := fun w _ => laidMetH Tryd.prog laidL w) false (World.doorLaid Tryd.prog 400 os) #[.agg #[.int .i64 0, .int .i64 0, .int .i64 0, .int .i64 0, .int .i64 0, .int .i64 0, .int .i64 0, .int .i64 0, .int .i64 0, .int .i64 0, .int .i64 0, .int .i64 0, .int .i64 0, .int .i64 0, .int .i64 0]] 8 rfl (World.shaped_of_RefB (by kernel_rfl) (by kernel_rfl)) (by kernel_rfl) (by kernel_rfl) (by kernel_rfl) (door_met os _)) ?_
  intro W base args ds gs before hval0 hW _ hsz0 hL _
  have hval : ∀ (j : Nat) t v, Tryd.f8.params[j]? = some t → args[j]? = some v → Value.okWide Tryd.prog W .any base t v := hval0
  have hW' := hW
  obtain ⟨p, q, hA0, hV, rfl, hfz, hnd⟩ := hW
  have hA : DataW.TrodAll enc Tryd.prog W 0 (fun _ => true) true Tryd.f8.params.toList args.toList ds p := hA0
  rw [Tryd.params8] at hA hval
  obtain ⟨v0, vs0, d0, ds0, p0, q0, hargs, rfl, rfl, h0, r0⟩ := trodAll_cons hA
  obtain ⟨rfl, rfl, rfl⟩ := trodAll_nil r0
  obtain rfl : args = #[v0] := by cases args; simp_all
  obtain ⟨gv0, gv1, hgs⟩ := readings hV
  subst hgs
  have k0 := h0
  have lt0 : ∀ x ∈ p0, x.block < W.heap.size := by obtain ⟨m, hm⟩ := k0; exact DataW.trod_lt m _ _ _ hm
  obtain ⟨a0_0, a0_1, a0_2, a0_3, a0_4, a0_5, a0_6, a0_7, a0_8, a0_9, a0_10, a0_11, a0_12, a0_13, a0_14, rfl, w0⟩ : ∃ a0_0 a0_1 a0_2 a0_3 a0_4 a0_5 a0_6 a0_7 a0_8 a0_9 a0_10 a0_11 a0_12 a0_13 a0_14 : Int, v0 = .agg #[.int .i64 a0_0, .int .i64 a0_1, .int .i64 a0_2, .int .i64 a0_3, .int .i64 a0_4, .int .i64 a0_5, .int .i64 a0_6, .int .i64 a0_7, .int .i64 a0_8, .int .i64 a0_9, .int .i64 a0_10, .int .i64 a0_11, .int .i64 a0_12, .int .i64 a0_13, .int .i64 a0_14] ∧ ∀ z ∈ [a0_0, a0_1, a0_2, a0_3, a0_4, a0_5, a0_6, a0_7, a0_8, a0_9, a0_10, a0_11, a0_12, a0_13, a0_14], (Lit.int .i64 z).wf = true := by
    obtain ⟨zs, hl, rfl, hw⟩ := flat_open (n := 15) Tryd.underlying54 (by kernel_rfl) (by kernel_rfl) (hval 0 54 v0 rfl rfl) h0
    obtain ⟨a0_0, a0_1, a0_2, a0_3, a0_4, a0_5, a0_6, a0_7, a0_8, a0_9, a0_10, a0_11, a0_12, a0_13, a0_14, rfl⟩ := cells15 hl
    exact ⟨a0_0, a0_1, a0_2, a0_3, a0_4, a0_5, a0_6, a0_7, a0_8, a0_9, a0_10, a0_11, a0_12, a0_13, a0_14, rfl, hw⟩
  clear hA0 hval0
  refine (walk a0_0 a0_1 a0_2 a0_3 a0_4 a0_5 a0_6 a0_7 a0_8 a0_9 a0_10 a0_11 a0_12 a0_13 a0_14 w0 W hL).mono fun e W' ⟨he, bel⟩ => ?_
  subst he
  exact ⟨_, rfl, _, _, _, [], _, q, hW', (trodAll_cons_mk (shut_bool Tryd.underlying4 _) trodAll_mk0), (trodAll_cons_mk (Below.trod (by kernel_rfl) (by kernel_rfl) (of_decide_eq_true (by kernel_rfl)) k0 bel lt0) trodAll_mk0), Below.trodVars (by kernel_rfl) bel (by kernel_rfl) hV, bel.frame _, fun h => by cases h⟩

theorem over : Rows.fnExactPlaceChargesRow.holds Tryd.pinned (OpenSpec.ofChange Rows.fnExactPlaceChargesSpec) :=
  OpenClaim.holds_of_wide 8 Tryd.f8 rfl rfl rfl rfl rfl rfl rfl ⟨rfl, rfl, rfl, rfl, rfl⟩ rfl rfl rfl rfl rfl (by kernel_rfl) Tryd.func8 (by kernel_rfl)
    (of_decide_eq_true (by kernel_rfl)) (by unfold Func.isWrapper; first | (rw [if_pos (by decide +kernel)]; kernel_rfl) | (rw [if_neg (by decide +kernel)]; exact ⟨rfl, rfl⟩))
    (fun os started H enc _ => lifted os started H enc)

/-- The row's statement. -/
theorem proved : Rows.FnExactPlaceChargesSaid :=
  over

/-- THE TIED CARD: the listed variables are those that the program's own text lays. -/
theorem card : Rows.FnExactPlaceChargesCardSaid :=
  Claim7.holds_tied_plain_at .later [] [.data, .data, .data, .widerDeep] true (true, "c9407b8927502c6278181878e412d93467e68ec0650dd3c6c23d90e8e67f75ef") false
    proved (fun _ h => by cases h) (by kernel_rfl) (fun _ h => by cases h) fnExactPlaceCharges_row_tie rfl ⟨rfl, rfl⟩ (by kernel_rfl) rfl
    (fun f fn hf hfn => by
      obtain rfl : f = 8 := Option.some.inj ((show Tryd.prog.funcNamed "loop.example/g00884/laws.FnExactPlaceCharges" = some 8 by kernel_rfl).symm.trans hf) |>.symm
      obtain rfl : fn = Tryd.f8 := (Option.some.inj (Tryd.func8.symm.trans hfn)).symm
      exact ⟨by kernel_rfl, fun j t ht => by
        rw [Tryd.params8] at ht
        have hm : t ∈ [54] := by
          have := Array.mem_of_getElem? ht
          first | simpa using this | (simp at this ⊢; omega) | (simp at this ⊢; rcases this with h | h <;> simp [h])
        have hall : ([54].all fun u => !Tryd.prog.wantsStandIn u) = true := by kernel_rfl
        exact (show Tryd.prog.wantsStandIn t = false by simpa using List.all_eq_true.1 hall t hm)⟩)
    (by kernel_rfl)
#print axioms card
end Go.Proofs.YthapidnjioindaaDoor.fnExactPlaceCharges
