/- FnExactPartRegion: at every two numbers the law returns true: PartRegion of the program answers as its model does, in memory of its own. No condition. -/
import Derived.Test.YteekleibddjblaaRows
import Derived.WalkKit
import Derived.ProofKit
import Derived.OpenShut
import Derived.ShutString
import Derived.Test.YteekleibddjblaaC9L
import Derived.Test.YteekleibddjblaaC9S
import Derived.Test.YteekleibddjblaaC9T
import Derived.Below
namespace Go.Proofs.Yteekleibddjblaa.fnExactPartRegion
open Go.ChangeShapes Go.WideShapes Go.ChangeAt Go.RowKit
open Go.ChangeMaps (open_string shut_string)
set_option linter.unusedVariables false      -- a walk need not use every 'w<i>' (that an integer argument fits its kind)

theorem own : ownKnob Try.prog.godebug = none := by kernel_rfl

/-! ### STEP 1: THE WALK: the Go text returns true. 'Grown w w'': the world has at most new blocks (Derived/RowKit3.lean). Part the cases AHEAD of 'go_enter' where a test parts the walk; take each callee by a contract of your own. -/
set_option maxHeartbeats 4000000 in
set_option maxRecDepth 100000 in
theorem walk (a0 : Int) (a1 : Int) (w0 : (Lit.int .i64 a0).wf = true) (w1 : (Lit.int .i64 a1).wf = true) (w : World) :
    Calls Try.prog 4 #[.int .i64 a0, .int .i64 a1] w fun e w' => e = .returned (.bool true) ∧ Below w.heap.size w w' := by
  obtain ⟨X, n, ok, hn, CS, CI⟩ : ∃ (X : List Int) (n : Nat) (ok : Bool), n ≤ 24 ∧ (∀ W, Calls Try.prog 9 #[.int .i64 a0, .int .i64 a1] W (AnsRB W X n ok)) ∧ (∀ W, Calls Try.prog 8 #[.int .i64 a0, .int .i64 a1] W (AnsRB W X n ok)) := by
    by_cases h : (0 ≤ a0 ∧ a0 ≤ 7) ∧ (0 ≤ a1 ∧ a1 ≤ 1)
    · exact ⟨_, 24, true, by omega, fun W => part_spec a0 a1 W h.1.1 h.1.2 h.2.1 h.2.2, fun W => part_impl a0 a1 W h.1.1 h.1.2 h.2.1 h.2.2⟩
    · exact ⟨[], 0, false, by omega, fun W => part_spec_no a0 a1 W h, fun W => part_impl_no a0 a1 W h⟩
  have HS := Lib.hid CS
  have HI := Lib.hid CI
  have eok : (ok != ok) = false := by simp
  have e0 : decide ((1 : Int) + (n : Int) < 0) = false := by simp; omega
  have HB := Lib.hid (Below.refl w.heap.size w)
  clear CS CI
  go_enter Try.func4, Try.ntmps4
  go_wp2_with fail
  refine (HS.out _).mono ?_
  rintro e w1 ⟨a_s, c_s, rfl, ho_, hb_⟩
  have l_s : ∀ q, (Value.slice a_s n c_s).ownBlock = some q → _ := fun q hq => World.ownsRow.lt ho_ q hq
  have z_w1 := hb_.size
  try simp only [World.size_alloc] at l_s z_w1
  have HB_ := Lib.hid (HB.out.trans (hb_.mono HB.out.size))
  clear  HB
  have HB := HB_
  clear  HB_
  have R_s := Lib.hid ho_
  clear ho_ hb_
  have R_s_ := Lib.hid (R_s.out.below ((Below.refl _ w1).alloc (Nat.le_refl _) (.cells #[.slice a_s n c_s] 28 (0, 0))))
  have HB_ := Lib.hid (HB.out.alloc HB.out.size (.cells #[.slice a_s n c_s] 28 (0, 0)))
  clear R_s HB
  have R_s := R_s_
  have HB := HB_
  clear R_s_ HB_
  have B_s := Lib.hid (BoxF.new w1 [.slice a_s n c_s] 28)
  go_wp2_with fail
  refine (HI.out _).mono ?_
  rintro e w2 ⟨a_g, c_g, rfl, ho_, hb_⟩
  have l_g : ∀ q, (Value.slice a_g n c_g).ownBlock = some q → _ := fun q hq => World.ownsRow.lt ho_ q hq
  have z_w2 := hb_.size
  try simp only [World.size_alloc] at l_g z_w2
  have R_s_ := Lib.hid (R_s.out.below hb_)
  have B_s_ := Lib.hid (B_s.out.below hb_)
  have HB_ := Lib.hid (HB.out.trans (hb_.mono HB.out.size))
  clear R_s B_s HB
  have R_s := R_s_
  have B_s := B_s_
  have HB := HB_
  clear R_s_ B_s_ HB_
  have R_g := Lib.hid ho_
  clear ho_ hb_
  have R_s_ := Lib.hid (R_s.out.below ((Below.refl _ w2).alloc (Nat.le_refl _) (.cells #[.slice a_g n c_g] 28 (0, 0))))
  have R_g_ := Lib.hid (R_g.out.below ((Below.refl _ w2).alloc (Nat.le_refl _) (.cells #[.slice a_g n c_g] 28 (0, 0))))
  have B_s_ := Lib.hid (B_s.out.alloc (.cells #[.slice a_g n c_g] 28 (0, 0)))
  have HB_ := Lib.hid (HB.out.alloc HB.out.size (.cells #[.slice a_g n c_g] 28 (0, 0)))
  clear R_s R_g B_s HB
  have R_s := R_s_
  have R_g := R_g_
  have B_s := B_s_
  have HB := HB_
  clear R_s_ R_g_ B_s_ HB_
  have B_g := Lib.hid (BoxF.new w2 [.slice a_g n c_g] 28)
  have c_g := B_g.out.one.1
  have c_s := B_s.out.one.1
  go_wp2_with fail
  clear c_g c_s
  refine (eqRegion_true X n a_g a_s c_g c_s _ R_g.out.rd R_s.out.rd (by omega)).mono ?_
  rintro e w3 ⟨rfl, hb_⟩
  have z_w3 := hb_.size
  try simp only [World.size_alloc] at z_w3
  have R_s_ := Lib.hid (R_s.out.below hb_)
  have R_g_ := Lib.hid (R_g.out.below hb_)
  have B_s_ := Lib.hid (B_s.out.below hb_)
  have B_g_ := Lib.hid (B_g.out.below hb_)
  have HB_ := Lib.hid (HB.out.trans (hb_.mono HB.out.size))
  clear R_s R_g B_s B_g HB
  have R_s := R_s_
  have R_g := R_g_
  have B_s := B_s_
  have B_g := B_g_
  have HB := HB_
  clear R_s_ R_g_ B_s_ B_g_ HB_
  clear hb_
  have c_g := B_g.out.one.1
  go_wp2_with fail
  clear c_g
  refine (markRegion_any X n _ c_g a_g _ R_g.out (by omega)).mono ?_
  rintro e w4 ⟨rfl, ho_, hg_⟩
  have z_w4 := hg_.size
  try simp only [World.size_alloc] at z_w4
  have R_s_ := Lib.hid (R_s.out.kept hg_ (by
    cases hq : (Value.slice a_s n c_s).ownBlock with
    | none => exact .inl rfl
    | some q => refine .inr ?_; intro e; have h1 := l_s q hq; have h2 := l_g q e.symm; omega))
  have R_g_ := Lib.hid ho_
  have B_s_ := Lib.hid (B_s.out.kept hg_ (by intro e; have h2 := l_g _ e.symm; omega))
  have B_g_ := Lib.hid (B_g.out.kept hg_ (by intro e; have h2 := l_g _ e.symm; omega))
  have HB_ := Lib.hid (HB.out.grown hg_ HB.out.size (fun q hq => by have := l_g q hq; omega))
  clear R_s R_g B_s B_g HB
  have R_s := R_s_
  have R_g := R_g_
  have B_s := B_s_
  have B_g := B_g_
  have HB := HB_
  clear R_s_ R_g_ B_s_ B_g_ HB_
  clear ho_ hg_
  have c_g := B_g.out.one.1
  go_wp2_with fail
  clear c_g
  refine (heldRegion_any n a_g c_g _ R_g.out.rd (by omega)).mono ?_
  rintro e w5 ⟨rfl, hb_⟩
  have z_w5 := hb_.size
  try simp only [World.size_alloc] at z_w5
  have R_s_ := Lib.hid (R_s.out.below hb_)
  have R_g_ := Lib.hid (R_g.out.below hb_)
  have B_s_ := Lib.hid (B_s.out.below hb_)
  have B_g_ := Lib.hid (B_g.out.below hb_)
  have HB_ := Lib.hid (HB.out.trans (hb_.mono HB.out.size))
  clear R_s R_g B_s B_g HB
  have R_s := R_s_
  have R_g := R_g_
  have B_s := B_s_
  have B_g := B_g_
  have HB := HB_
  clear R_s_ R_g_ B_s_ B_g_ HB_
  clear hb_
  go_wp2_with fail
  refine (HI.out _).mono ?_
  rintro e w6 ⟨a_h, c_h, rfl, ho_, hb_⟩
  have l_h : ∀ q, (Value.slice a_h n c_h).ownBlock = some q → _ := fun q hq => World.ownsRow.lt ho_ q hq
  have z_w6 := hb_.size
  try simp only [World.size_alloc] at l_h z_w6
  have R_s_ := Lib.hid (R_s.out.below hb_)
  have R_g_ := Lib.hid (R_g.out.below hb_)
  have B_s_ := Lib.hid (B_s.out.below hb_)
  have B_g_ := Lib.hid (B_g.out.below hb_)
  have HB_ := Lib.hid (HB.out.trans (hb_.mono HB.out.size))
  clear R_s R_g B_s B_g HB
  have R_s := R_s_
  have R_g := R_g_
  have B_s := B_s_
  have B_g := B_g_
  have HB := HB_
  clear R_s_ R_g_ B_s_ B_g_ HB_
  have R_h := Lib.hid ho_
  clear ho_ hb_
  have R_s_ := Lib.hid (R_s.out.below ((Below.refl _ w6).alloc (Nat.le_refl _) (.cells #[.slice a_h n c_h] 28 (0, 0))))
  have R_g_ := Lib.hid (R_g.out.below ((Below.refl _ w6).alloc (Nat.le_refl _) (.cells #[.slice a_h n c_h] 28 (0, 0))))
  have R_h_ := Lib.hid (R_h.out.below ((Below.refl _ w6).alloc (Nat.le_refl _) (.cells #[.slice a_h n c_h] 28 (0, 0))))
  have B_s_ := Lib.hid (B_s.out.alloc (.cells #[.slice a_h n c_h] 28 (0, 0)))
  have B_g_ := Lib.hid (B_g.out.alloc (.cells #[.slice a_h n c_h] 28 (0, 0)))
  have HB_ := Lib.hid (HB.out.alloc HB.out.size (.cells #[.slice a_h n c_h] 28 (0, 0)))
  clear R_s R_g R_h B_s B_g HB
  have R_s := R_s_
  have R_g := R_g_
  have R_h := R_h_
  have B_s := B_s_
  have B_g := B_g_
  have HB := HB_
  clear R_s_ R_g_ R_h_ B_s_ B_g_ HB_
  have B_h := Lib.hid (BoxF.new w6 [.slice a_h n c_h] 28)
  have c_h := B_h.out.one.1
  have c_s := B_s.out.one.1
  go_wp2_with fail
  clear c_h c_s
  refine (eqRegion_true X n a_h a_s c_h c_s _ R_h.out.rd R_s.out.rd (by omega)).mono ?_
  rintro e w7 ⟨rfl, hb_⟩
  have z_w7 := hb_.size
  try simp only [World.size_alloc] at z_w7
  have R_s_ := Lib.hid (R_s.out.below hb_)
  have R_g_ := Lib.hid (R_g.out.below hb_)
  have R_h_ := Lib.hid (R_h.out.below hb_)
  have B_s_ := Lib.hid (B_s.out.below hb_)
  have B_g_ := Lib.hid (B_g.out.below hb_)
  have B_h_ := Lib.hid (B_h.out.below hb_)
  have HB_ := Lib.hid (HB.out.trans (hb_.mono HB.out.size))
  clear R_s R_g R_h B_s B_g B_h HB
  have R_s := R_s_
  have R_g := R_g_
  have R_h := R_h_
  have B_s := B_s_
  have B_g := B_g_
  have B_h := B_h_
  have HB := HB_
  clear R_s_ R_g_ R_h_ B_s_ B_g_ B_h_ HB_
  clear hb_
  have c_g := B_g.out.one.1
  go_wp2_with fail
  clear c_g
  refine (heldRegion_any n a_g c_g _ R_g.out.rd (by omega)).mono ?_
  rintro e w8 ⟨rfl, hb_⟩
  have z_w8 := hb_.size
  try simp only [World.size_alloc] at z_w8
  have R_s_ := Lib.hid (R_s.out.below hb_)
  have R_g_ := Lib.hid (R_g.out.below hb_)
  have R_h_ := Lib.hid (R_h.out.below hb_)
  have B_s_ := Lib.hid (B_s.out.below hb_)
  have B_g_ := Lib.hid (B_g.out.below hb_)
  have B_h_ := Lib.hid (B_h.out.below hb_)
  have HB_ := Lib.hid (HB.out.trans (hb_.mono HB.out.size))
  clear R_s R_g R_h B_s B_g B_h HB
  have R_s := R_s_
  have R_g := R_g_
  have R_h := R_h_
  have B_s := B_s_
  have B_g := B_g_
  have B_h := B_h_
  have HB := HB_
  clear R_s_ R_g_ R_h_ B_s_ B_g_ B_h_ HB_
  clear hb_
  go_wp2_with fail
  go_ret
  exact ⟨rfl, HB.out⟩

/-! ### THE ROW's STEP: WRITTEN OUT: LEAVE IT -/
set_option maxRecDepth 100000 in
theorem lifted (os : Os) (started : os.Started) (H : Type) (enc : TypeId × Value → H) :
    ReturnsInHanded {} Try.checked os 4 .any (Rows.fnExactPartRegionSpec.pre6 enc Try.prog Try.f4 Rows.fnExactPartRegionRow.domain false) (Rows.fnExactPartRegionSpec.post enc Try.prog Try.f4 false true false false) := by
  refine returnsInHanded_of_change (C := Try.checked) own started (by kernel_rfl) Try.func4
    (ChangeSpec.witness6 (enc := enc) (C := Try.checked) false ⟨#[], #[.int .i64 0, .int .i64 0], []⟩ 8 (by kernel_rfl) (by kernel_rfl) (by kernel_rfl) (by kernel_rfl)) ?_
  intro W base args ds gs before hval0 hW hcnd _
  have hval : ∀ (j : Nat) t v, Try.f4.params[j]? = some t → args[j]? = some v → Value.okWide Try.prog W .any base t v := hval0
  have hW' := hW
  obtain ⟨p, q, hA0, hV, rfl, hfz, hnd⟩ := hW
  have hA : DataW.TrodAll enc Try.prog W 0 (fun _ => true) true Try.f4.params.toList args.toList ds p := hA0
  rw [Try.params4] at hA hval
  obtain ⟨v0, vs0, d0, ds0, p0, q0, hargs, rfl, rfl, h0, r0⟩ := trodAll_cons hA
  obtain ⟨v1, vs1, d1, ds1, p1, q1, rfl, rfl, rfl, h1, r1⟩ := trodAll_cons r0
  obtain ⟨rfl, rfl, rfl⟩ := trodAll_nil r1
  obtain rfl : args = #[v0, v1] := by cases args; simp_all
  obtain ⟨rfl, rfl⟩ := trodVars_none hV
  obtain ⟨a0, rfl, rfl, rfl, w0⟩ := open_int Try.underlying3 (hval 0 3 v0 rfl rfl) h0
  obtain ⟨a1, rfl, rfl, rfl, w1⟩ := open_int Try.underlying3 (hval 1 3 v1 rfl rfl) h1
  clear hA0 hval0
  simp only [List.append_nil] at hW'
  refine (walk a0 a1 w0 w1 W).mono fun e W' ⟨he, bel⟩ => ?_
  subst he
  exact ⟨_, rfl, _, _, _, [], [], [], hW', (trodAll_cons_mk (shut_bool Try.underlying4 _) trodAll_mk0), (trodAll_cons_mk (shut_int Try.underlying3 w0) (trodAll_cons_mk (shut_int Try.underlying3 w1) trodAll_mk0)), rfl, bel.frame _, fun h => by cases h⟩

theorem over : Rows.fnExactPartRegionRow.holds Try.pinned (OpenSpec.ofChange Rows.fnExactPartRegionSpec) :=
  OpenClaim.holds_of_wide 4 Try.f4 rfl rfl rfl rfl rfl rfl rfl ⟨rfl, rfl, rfl, rfl, rfl⟩ rfl rfl rfl rfl rfl (by kernel_rfl) Try.func4 (by kernel_rfl)
    (of_decide_eq_true (by kernel_rfl)) (by unfold Func.isWrapper; first | (rw [if_pos (by decide +kernel)]; kernel_rfl) | (rw [if_neg (by decide +kernel)]; exact ⟨rfl, rfl⟩))
    (fun os started H enc _ => lifted os started H enc)

/-- ████ THE STATEMENT ████ -/
theorem proved : Rows.FnExactPartRegionSaid :=
  over
#print axioms proved
end Go.Proofs.Yteekleibddjblaa.fnExactPartRegion
