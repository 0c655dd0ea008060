/- FnExactWrapArms: at all arms and widths the law returns true: WrapArms of the program answers as its model does, in memory of its own. The card ties the tables of words to the program's text. No condition. -/
import Derived.Test.YtgeidnnjljpdkaaDoorRows
import Derived.Test.YtgeidnnjljpdkaaDoorCards
import Derived.Test.YtgeidnnjljpdkaaDoorTie
import Derived.WalkKit
import Derived.ProofKit
import Derived.OpenShut
import Derived.ShutString
import Derived.Test.YtgeidnnjljpdkaaDoorKS
import Derived.Test.YtgeidnnjljpdkaaDoorKY
import Derived.LaidMore
import Derived.Stop.Joined
import Derived.SevenTiedAt
import Derived.OpenVars
import Derived.ChangeVars
import Derived.Test.YtgeidnnjljpdkaaDoorShape
import Derived.Lay
import Derived.Below
import Derived.Test.YtgeidnnjljpdkaaDoorFlat
namespace Go.Proofs.YtgeidnnjljpdkaaDoor.fnExactWrapArms
open Go.ChangeShapes Go.WideShapes Go.ChangeAt Go.RowKit
open Go.ChangeMaps (open_string shut_string)
set_option linter.unusedVariables false      -- a walk need not use every 'w<i>' (that an integer argument fits its kind)

theorem cells15 {zs : List Int} (h : zs.length = 15) : ∃ x0 x1 x2 x3 x4 x5 x6 x7 x8 x9 x10 x11 x12 x13 x14 : Int, zs = [x0, x1, x2, x3, x4, x5, x6, x7, x8, x9, x10, x11, x12, x13, x14] := by
  match zs, h with
  | [x0, x1, x2, x3, x4, x5, x6, x7, x8, x9, x10, x11, x12, x13, x14], _ => exact ⟨x0, x1, x2, x3, x4, x5, x6, x7, x8, x9, x10, x11, x12, x13, x14, rfl⟩

def laidL : List (String × DataW Unit) := [("unicode/utf8.acceptRanges", Rows.laid_unicode_utf8_acceptRanges), ("loop.example/g00884/impl.tinctureWords", Rows.laid_loop_example_g00884_impl_tinctureWords), ("loop.example/g00884/impl.divisionWords", Rows.laid_loop_example_g00884_impl_divisionWords), ("loop.example/g00884/impl.lineWords", Rows.laid_loop_example_g00884_impl_lineWords), ("loop.example/g00884/impl.countWords", Rows.laid_loop_example_g00884_impl_countWords), ("loop.example/g00884/impl.kindWords", Rows.laid_loop_example_g00884_impl_kindWords), ("loop.example/g00884/impl.attitudeWords", Rows.laid_loop_example_g00884_impl_attitudeWords), ("loop.example/g00884/impl.ordinaryWords", Rows.laid_loop_example_g00884_impl_ordinaryWords), ("unicode/utf8.first", Rows.laid_unicode_utf8_first)]

theorem readings {H : Type} {enc : TypeId × Value → H} {P : Program} {w : World} {spare : Nat → Bool} {n0 n1 n2 n3 n4 n5 n6 : String} {gs : List (DataW H)} {ps : List MemPlace} (h : DataW.TrodVars enc P w spare [n0, n1, n2, n3, n4, n5, n6] gs ps) : ∃ gv0 gv1 gv2 gv3 gv4 gv5 gv6 : DataW H, gs = [gv0, gv1, gv2, gv3, gv4, gv5, gv6] := by
  cases gs with
  | nil => simp [DataW.TrodVars] at h
  | cons g0 gs =>
  obtain ⟨_, _, _, _, _, _, _, _, _, _, h, _⟩ := h
  cases gs with
  | nil => simp [DataW.TrodVars] at h
  | cons g1 gs =>
  obtain ⟨_, _, _, _, _, _, _, _, _, _, h, _⟩ := h
  cases gs with
  | nil => simp [DataW.TrodVars] at h
  | cons g2 gs =>
  obtain ⟨_, _, _, _, _, _, _, _, _, _, h, _⟩ := h
  cases gs with
  | nil => simp [DataW.TrodVars] at h
  | cons g3 gs =>
  obtain ⟨_, _, _, _, _, _, _, _, _, _, h, _⟩ := h
  cases gs with
  | nil => simp [DataW.TrodVars] at h
  | cons g4 gs =>
  obtain ⟨_, _, _, _, _, _, _, _, _, _, h, _⟩ := h
  cases gs with
  | nil => simp [DataW.TrodVars] at h
  | cons g5 gs =>
  obtain ⟨_, _, _, _, _, _, _, _, _, _, h, _⟩ := h
  cases gs with
  | nil => simp [DataW.TrodVars] at h
  | cons g6 gs =>
  obtain ⟨_, _, _, _, _, _, _, _, _, _, h, _⟩ := h
  obtain ⟨rfl, _⟩ := trodVars_none h
  exact ⟨g0, g1, g2, g3, g4, g5, g6, rfl⟩

theorem own : ownKnob Tryd.prog.godebug = none := by kernel_rfl

/-! ### STEP 1: THE WALK: the Go text returns true. 'Grown w w'': the world has at most new blocks (Derived/RowKit3.lean). Part the cases AHEAD of 'go_enter' where a test parts the walk; take each callee by a contract of your own. -/
set_option maxHeartbeats 8000000 in
theorem walk (a0_0 a0_1 a0_2 a0_3 a0_4 a0_5 a0_6 a0_7 a0_8 a0_9 a0_10 a0_11 a0_12 a0_13 a0_14 : Int) (a1 : Int) (w0 : ∀ z ∈ [a0_0, a0_1, a0_2, a0_3, a0_4, a0_5, a0_6, a0_7, a0_8, a0_9, a0_10, a0_11, a0_12, a0_13, a0_14], (Lit.int .i64 z).wf = true) (w1 : (Lit.int .i64 a1).wf = true) (w : World) (hL : laidMetH Tryd.prog laidL w) (hS : w.ShapedOpen Tryd.prog) :
    Calls Tryd.prog 10 #[.agg #[.int .i64 a0_0, .int .i64 a0_1, .int .i64 a0_2, .int .i64 a0_3, .int .i64 a0_4, .int .i64 a0_5, .int .i64 a0_6, .int .i64 a0_7, .int .i64 a0_8, .int .i64 a0_9, .int .i64 a0_10, .int .i64 a0_11, .int .i64 a0_12, .int .i64 a0_13, .int .i64 a0_14], .int .i64 a1] w fun e w' => e = .returned (.bool true) ∧ Below w.heap.size w w' := by
  have hT : STabs w := stabsH9 (by kernel_rfl) hL
  have hM : MaxLenAt w := maxLen_of hS
  obtain ⟨r, hr⟩ : ∃ r, aOkB a0_0 a0_1 a0_2 a0_3 a0_4 a0_5 a0_6 a0_7 a0_8 a0_9 a0_10 a0_11 a0_12 a0_13 a0_14 = r := ⟨_, rfl⟩
  obtain ⟨p, hp⟩ : ∃ p, decide (12 ≤ a1 ∧ a1 ≤ 80) = p := ⟨_, rfl⟩
  obtain ⟨X, ok, hX, CS, CI⟩ : ∃ (X : List ByteArray) (ok : Bool), X.length ≤ 1000 ∧ (∀ W, Calls Tryd.prog 37 #[.agg #[.int .i64 a0_0, .int .i64 a0_1, .int .i64 a0_2, .int .i64 a0_3, .int .i64 a0_4, .int .i64 a0_5, .int .i64 a0_6, .int .i64 a0_7, .int .i64 a0_8, .int .i64 a0_9, .int .i64 a0_10, .int .i64 a0_11, .int .i64 a0_12, .int .i64 a0_13, .int .i64 a0_14], .int .i64 a1] W (AnsT W X ok)) ∧ (∀ W, Below w.heap.size w W → Calls Tryd.prog 38 #[.agg #[.int .i64 a0_0, .int .i64 a0_1, .int .i64 a0_2, .int .i64 a0_3, .int .i64 a0_4, .int .i64 a0_5, .int .i64 a0_6, .int .i64 a0_7, .int .i64 a0_8, .int .i64 a0_9, .int .i64 a0_10, .int .i64 a0_11, .int .i64 a0_12, .int .i64 a0_13, .int .i64 a0_14], .int .i64 a1] W (AnsT W X ok)) :=
    ⟨_, _, wrapN_len hr, fun W => wrap_spec a0_0 a0_1 a0_2 a0_3 a0_4 a0_5 a0_6 a0_7 a0_8 a0_9 a0_10 a0_11 a0_12 a0_13 a0_14 a1 W r p hr hp, fun W hb => wrap_impl a0_0 a0_1 a0_2 a0_3 a0_4 a0_5 a0_6 a0_7 a0_8 a0_9 a0_10 a0_11 a0_12 a0_13 a0_14 a1 W r p hr hp (hT.below hb) (hM.below hb)⟩
  have CT := Lib.hid (fun W => toArms_any a0_0 a0_1 a0_2 a0_3 a0_4 a0_5 a0_6 a0_7 a0_8 a0_9 a0_10 a0_11 a0_12 a0_13 a0_14 W)
  clear hT hM hL hS w0 hr hp
  obtain ⟨N, hN⟩ : ∃ N, X.length = N := ⟨_, rfl⟩
  have HN := Lib.hid hN
  have hX2 : N ≤ 1000 := by omega
  have e0 : decide ((1 : Int) + (N : Int) < 0) = false := by simp; omega
  unfold AnsT at CS CI
  rw [hN] at CS CI
  clear hX hN
  have HS := Lib.hid CS
  have HI := Lib.hid CI
  clear CS CI
  have bx := BoxF.new w [.int .i64 a0_0, .int .i64 a0_1, .int .i64 a0_2, .int .i64 a0_3, .int .i64 a0_4, .int .i64 a0_5, .int .i64 a0_6, .int .i64 a0_7, .int .i64 a0_8, .int .i64 a0_9, .int .i64 a0_10, .int .i64 a0_11, .int .i64 a0_12, .int .i64 a0_13, .int .i64 a0_14] 47
  obtain ⟨x0, x1, x2, x3, x4, x5, x6, x7, x8, x9, x10, x11, x12, x13, x14, xf⟩ := bx.fifteen
  cases ok
  all_goals
    go_enter Tryd.func10, Tryd.ntmps10
    go_wp2_with fail
    refine (CT.out _).mono ?_
    rintro e V1 ⟨rfl, h1⟩
    clear x0 x1 x2 x3 x4 x5 x6 x7 x8 x9 x10 x11 x12 x13 x14 xf
    have X1 := Lib.hid (bx.below h1)
    have B1 := Lib.hid (((Below.refl _ w).alloc (Nat.le_refl _) _).trans (h1.mono (by simp)))
    clear h1 bx
    go_wp2_with fail
    refine (HS.out _).mono ?_
    rintro e W1 ⟨g0, c0, rfl, ho0, hb1⟩
    have bx := X1.out.below hb1
    have B2 := Lib.hid (B1.out.trans (hb1.mono B1.out.size))
    obtain ⟨x0, x1, x2, x3, x4, x5, x6, x7, x8, x9, x10, x11, x12, x13, x14, xf⟩ := bx.fifteen
    have HO0 := Lib.hid ho0
    clear hb1 ho0 X1 B1
    go_wp2_with fail
    refine (CT.out _).mono ?_
    rintro e V2 ⟨rfl, h2⟩
    clear x0 x1 x2 x3 x4 x5 x6 x7 x8 x9 x10 x11 x12 x13 x14 xf
    have X2 := Lib.hid (bx.below h2)
    have B3 := Lib.hid (B2.out.trans (h2.mono B2.out.size))
    have R0 := Lib.hid (HO0.out.rd.below h2)
    clear h2 bx HO0 B2
    go_wp2_with fail
    refine (HI.out _ B3.out).mono ?_
    rintro e W2 ⟨g1, c1, rfl, ho1, hb2⟩
    have bx2 := X2.out.below hb2
    have hlt2 := X2.out.lt
    have r0 := R0.out.below hb2
    have r1 := ho1.rd
    go_wp2_with fail
    refine (eqStringS_true X N _ _ _ _ _ r1 r0 (by omega)).mono ?_
    rintro e W2' ⟨rfl, m, rfl⟩
    go_wp2_with fail
    refine (mark1S X N V2.heap.size c1 g1 (W2.drewN m) ho1 (by omega)).mono ?_
    rintro e W3 ⟨rfl, ho3, hg3⟩
    have hs1 := B3.out.size
    have hs2 := hb2.size
    have bx3 : BoxF W3 w.heap.size [.int .i64 a0_0, .int .i64 a0_1, .int .i64 a0_2, .int .i64 a0_3, .int .i64 a0_4, .int .i64 a0_5, .int .i64 a0_6, .int .i64 a0_7, .int .i64 a0_8, .int .i64 a0_9, .int .i64 a0_10, .int .i64 a0_11, .int .i64 a0_12, .int .i64 a0_13, .int .i64 a0_14] 47 := BoxF.kept (w := W2.drewN m) bx2 hg3 (fun e2 => by
      have := (World.ownsRow.lt ho1 _ e2.symm).1
      omega)
    have r0' : RdS W3 g0 N X := ⟨r0.1, fun hn => by
      obtain ⟨b, o, e, hlt, hc⟩ := R0.out.2 hn
      obtain ⟨b', o', e', hlt', hc'⟩ := r0.2 hn
      rw [e] at e'
      cases e'
      refine ⟨b, o, e, Nat.lt_of_lt_of_le hlt' hg3.size, fun k hk => (hg3.cell (hc' k hk) (fun e2 => ?_))⟩
      rcases ho1.shape with ⟨rfl, h0, _⟩ | ⟨q, rfl, hq, _⟩
      · omega
      · simp [Value.ownBlock] at e2; omega⟩
    have r3 := ho3.rd
    have B4 := Lib.hid ((below_drewN' (B3.out.trans (hb2.mono hs1)) m).grown hg3 (Nat.le_trans hs1 hs2) (fun q hq => by
      have := (World.ownsRow.lt ho1 q hq).1
      omega))
    clear r0 r1 hg3 bx2 hb2 ho1 ho3 R0 X2
    go_wp2_with fail
    refine (held1S N _ _ _ r3 (by omega)).mono ?_
    rintro e W4 ⟨rfl, hb4⟩
    have bx := bx3.below hb4
    have q0 := r0'.below hb4
    have q3 := r3.below hb4
    have B5 := Lib.hid (B4.out.trans (hb4.mono B4.out.size))
    obtain ⟨x0, x1, x2, x3, x4, x5, x6, x7, x8, x9, x10, x11, x12, x13, x14, xf⟩ := bx.fifteen
    clear bx3 r0' r3 hb4 B4
    go_wp2_with fail
    refine (CT.out _).mono ?_
    rintro e V5 ⟨rfl, h5⟩
    clear x0 x1 x2 x3 x4 x5 x6 x7 x8 x9 x10 x11 x12 x13 x14 xf
    have p0 := q0.below h5
    have p3 := q3.below h5
    have B6 := Lib.hid (B5.out.trans (h5.mono B5.out.size))
    clear q0 q3 h5 bx B5
    go_wp2_with fail
    refine (HI.out _ B6.out).mono ?_
    rintro e W5 ⟨g2, c2, rfl, ho2, hb5⟩
    go_wp2_with fail
    refine (eqStringS_true X N _ _ _ _ _ ho2.rd (p0.below hb5) (by omega)).mono ?_
    rintro e W5' ⟨rfl, m', rfl⟩
    go_wp2_with fail
    refine (held1S N _ _ (W5.drewN m') ((p3.below hb5).drewN m') (by omega)).mono ?_
    rintro e W6 ⟨rfl, hb6⟩
    go_wp2_with fail
    go_ret
    have B7 := below_drewN' (B6.out.trans (hb5.mono B6.out.size)) m'
    exact ⟨rfl, B7.trans (hb6.mono B7.size)⟩

/-! ### THE ROW's STEP: WRITTEN OUT: LEAVE IT -/
set_option maxRecDepth 100000 in
set_option maxHeartbeats 4000000 in
theorem lifted (os : Os) (started : os.Started) (H : Type) (enc : TypeId × Value → H) :
    ReturnsInHanded {} Tryd.checked os 10 .any (fun w args => (Rows.fnExactWrapArmsSpec.pre enc Tryd.prog Tryd.f10 Rows.fnExactWrapArmsRow.domain false w args ∧ laidMetH Tryd.prog laidL w) ∧ sizedMet enc Tryd.prog Tryd.f10 (OpenSpec.ofChange Rows.fnExactWrapArmsSpec) false w args)
      (Rows.fnExactWrapArmsSpec.post enc Tryd.prog Tryd.f10 false true false false) := by
  refine returns_and_shaped (C := Tryd.checked) (X := fun w _ => laidMetH Tryd.prog laidL w) (fun _ _ _ hh h => h.of_heap hh) own started (by kernel_rfl) Tryd.func10
    (ChangeSpec.witness_shaped (enc := enc) (C := Tryd.checked) (os := os) (X := fun w _ => laidMetH Tryd.prog laidL w) false (World.laidAll Tryd.prog os laidL) #[.agg #[.int .i64 0, .int .i64 0, .int .i64 0, .int .i64 0, .int .i64 0, .int .i64 0, .int .i64 0, .int .i64 0, .int .i64 0, .int .i64 0, .int .i64 0, .int .i64 0, .int .i64 0, .int .i64 0, .int .i64 0], .int .i64 0] 8 (World.laidAll_os _ _ _) (World.shaped_of_ZipB (by kernel_rfl) (by kernel_rfl)) (by kernel_rfl) (by kernel_rfl) (by kernel_rfl) (by rw [MakeChecks.laidMetH_plain _ _ _ (by kernel_rfl)]; exact laidMet_laidAll _ (by kernel_rfl) (by kernel_rfl))) ?_
  intro W base args ds gs before hsh hval0 hW _ hsz0 hL _
  have hval : ∀ (j : Nat) t v, Tryd.f10.params[j]? = some t → args[j]? = some v → Value.okWide Tryd.prog W .any base t v := hval0
  have hW' := hW
  obtain ⟨p, q, hA0, hV, rfl, hfz, hnd⟩ := hW
  have hA : DataW.TrodAll enc Tryd.prog W 0 (fun _ => true) true Tryd.f10.params.toList args.toList ds p := hA0
  rw [Tryd.params10] at hA hval
  obtain ⟨v0, vs0, d0, ds0, p0, q0, hargs, rfl, rfl, h0, r0⟩ := trodAll_cons hA
  obtain ⟨v1, vs1, d1, ds1, p1, q1, rfl, rfl, rfl, h1, r1⟩ := trodAll_cons r0
  obtain ⟨rfl, rfl, rfl⟩ := trodAll_nil r1
  obtain rfl : args = #[v0, v1] := by cases args; simp_all
  obtain ⟨gv0, gv1, gv2, gv3, gv4, gv5, gv6, hgs⟩ := readings hV
  subst hgs
  have k0 := h0
  have lt0 : ∀ x ∈ p0, x.block < W.heap.size := by obtain ⟨m, hm⟩ := k0; exact DataW.trod_lt m _ _ _ hm
  obtain ⟨a0_0, a0_1, a0_2, a0_3, a0_4, a0_5, a0_6, a0_7, a0_8, a0_9, a0_10, a0_11, a0_12, a0_13, a0_14, rfl, w0⟩ : ∃ a0_0 a0_1 a0_2 a0_3 a0_4 a0_5 a0_6 a0_7 a0_8 a0_9 a0_10 a0_11 a0_12 a0_13 a0_14 : Int, v0 = .agg #[.int .i64 a0_0, .int .i64 a0_1, .int .i64 a0_2, .int .i64 a0_3, .int .i64 a0_4, .int .i64 a0_5, .int .i64 a0_6, .int .i64 a0_7, .int .i64 a0_8, .int .i64 a0_9, .int .i64 a0_10, .int .i64 a0_11, .int .i64 a0_12, .int .i64 a0_13, .int .i64 a0_14] ∧ ∀ z ∈ [a0_0, a0_1, a0_2, a0_3, a0_4, a0_5, a0_6, a0_7, a0_8, a0_9, a0_10, a0_11, a0_12, a0_13, a0_14], (Lit.int .i64 z).wf = true := by
    obtain ⟨zs, hl, rfl, hw⟩ := flat_open (n := 15) Tryd.underlying47 (by kernel_rfl) (by kernel_rfl) (hval 0 47 v0 rfl rfl) h0
    obtain ⟨a0_0, a0_1, a0_2, a0_3, a0_4, a0_5, a0_6, a0_7, a0_8, a0_9, a0_10, a0_11, a0_12, a0_13, a0_14, rfl⟩ := cells15 hl
    exact ⟨a0_0, a0_1, a0_2, a0_3, a0_4, a0_5, a0_6, a0_7, a0_8, a0_9, a0_10, a0_11, a0_12, a0_13, a0_14, rfl, hw⟩
  obtain ⟨a1, rfl, rfl, rfl, w1⟩ := open_int Tryd.underlying3 (hval 1 3 v1 rfl rfl) h1
  clear hA0 hval0
  refine (walk a0_0 a0_1 a0_2 a0_3 a0_4 a0_5 a0_6 a0_7 a0_8 a0_9 a0_10 a0_11 a0_12 a0_13 a0_14 a1 w0 w1 W hL hsh).mono fun e W' ⟨he, bel⟩ => ?_
  subst he
  exact ⟨_, rfl, _, _, _, [], _, q, hW', (trodAll_cons_mk (shut_bool Tryd.underlying4 _) trodAll_mk0), (trodAll_cons_mk (Below.trod (by kernel_rfl) (by kernel_rfl) (of_decide_eq_true (by kernel_rfl)) k0 bel lt0) (trodAll_cons_mk (shut_int Tryd.underlying3 w1) trodAll_mk0)), Below.trodVars (by kernel_rfl) bel (by kernel_rfl) hV, bel.frame _, fun h => by cases h⟩

theorem over : Rows.fnExactWrapArmsRow.holds Tryd.pinned (OpenSpec.ofChange Rows.fnExactWrapArmsSpec) :=
  OpenClaim.holds_of_wide 10 Tryd.f10 rfl rfl rfl rfl rfl rfl rfl ⟨rfl, rfl, rfl, rfl, rfl⟩ rfl rfl rfl rfl rfl (by kernel_rfl) Tryd.func10 (by kernel_rfl)
    (of_decide_eq_true (by kernel_rfl)) (by unfold Func.isWrapper; first | (rw [if_pos (by decide +kernel)]; kernel_rfl) | (rw [if_neg (by decide +kernel)]; exact ⟨rfl, rfl⟩))
    (fun os started H enc _ => lifted os started H enc)

/-- The row's statement. -/
theorem proved : Rows.FnExactWrapArmsSaid :=
  over

/-- THE TIED CARD: the listed variables are those that the program's own text lays. -/
theorem card : Rows.FnExactWrapArmsCardSaid :=
  Claim7.holds_tied_plain_at .later [] [.data, .data, .widerDeep, .widerDeep, .widerDeep, .widerDeep, .widerDeep, .widerDeep, .pinned] true (true, "c1e30132f1301c75a91746f8ff202ccab251c7c0a8f989c87d959498e36b1b6b") false
    proved (fun _ h => by cases h) (by kernel_rfl) (fun _ h => by cases h) fnExactWrapArms_row_tie rfl ⟨rfl, rfl⟩ (by kernel_rfl) rfl
    (fun f fn hf hfn => by
      obtain rfl : f = 10 := Option.some.inj ((show Tryd.prog.funcNamed "loop.example/g00884/laws.FnExactWrapArms" = some 10 by kernel_rfl).symm.trans hf) |>.symm
      obtain rfl : fn = Tryd.f10 := (Option.some.inj (Tryd.func10.symm.trans hfn)).symm
      exact ⟨by kernel_rfl, fun j t ht => by
        rw [Tryd.params10] at ht
        have hm : t ∈ [3, 47] := by
          have := Array.mem_of_getElem? ht
          first | simpa using this | (simp at this ⊢; omega) | (simp at this ⊢; rcases this with h | h <;> simp [h])
        have hall : ([3, 47].all fun u => !Tryd.prog.wantsStandIn u) = true := by kernel_rfl
        exact (show Tryd.prog.wantsStandIn t = false by simpa using List.all_eq_true.1 hall t hm)⟩)
    (by kernel_rfl)
#print axioms card
end Go.Proofs.YtgeidnnjljpdkaaDoor.fnExactWrapArms
