/- FnExactWordCount: at all arms the law returns true: WordCount of the program answers as its model does. The card ties the tables of words to the program's text. No condition. -/
import Derived.Test.YtgeidnnjljpdkaaDoorRows
import Derived.Test.YtgeidnnjljpdkaaDoorCards
import Derived.Test.YtgeidnnjljpdkaaDoorTie
import Derived.WalkKit
import Derived.ProofKit
import Derived.OpenShut
import Derived.ShutString
import Derived.Test.YtgeidnnjljpdkaaDoorKS
import Derived.Test.YtgeidnnjljpdkaaDoorKY
import Derived.LaidMore
import Derived.Stop.Joined
import Derived.SevenTiedAt
import Derived.OpenVars
import Derived.ChangeVars
import Derived.Test.YtgeidnnjljpdkaaDoorShape
import Derived.Lay
import Derived.Below
import Derived.Test.YtgeidnnjljpdkaaDoorFlat
namespace Go.Proofs.YtgeidnnjljpdkaaDoor.fnExactWordCount
open Go.ChangeShapes Go.WideShapes Go.ChangeAt Go.RowKit
open Go.ChangeMaps (open_string shut_string)
set_option linter.unusedVariables false      -- a walk need not use every 'w<i>' (that an integer argument fits its kind)

theorem cells15 {zs : List Int} (h : zs.length = 15) : ∃ x0 x1 x2 x3 x4 x5 x6 x7 x8 x9 x10 x11 x12 x13 x14 : Int, zs = [x0, x1, x2, x3, x4, x5, x6, x7, x8, x9, x10, x11, x12, x13, x14] := by
  match zs, h with
  | [x0, x1, x2, x3, x4, x5, x6, x7, x8, x9, x10, x11, x12, x13, x14], _ => exact ⟨x0, x1, x2, x3, x4, x5, x6, x7, x8, x9, x10, x11, x12, x13, x14, rfl⟩

def laidL : List (String × DataW Unit) := [("unicode/utf8.acceptRanges", Rows.laid_unicode_utf8_acceptRanges), ("loop.example/g00884/impl.tinctureWords", Rows.laid_loop_example_g00884_impl_tinctureWords), ("loop.example/g00884/impl.divisionWords", Rows.laid_loop_example_g00884_impl_divisionWords), ("loop.example/g00884/impl.lineWords", Rows.laid_loop_example_g00884_impl_lineWords), ("loop.example/g00884/impl.countWords", Rows.laid_loop_example_g00884_impl_countWords), ("loop.example/g00884/impl.kindWords", Rows.laid_loop_example_g00884_impl_kindWords), ("loop.example/g00884/impl.attitudeWords", Rows.laid_loop_example_g00884_impl_attitudeWords), ("loop.example/g00884/impl.ordinaryWords", Rows.laid_loop_example_g00884_impl_ordinaryWords), ("unicode/utf8.first", Rows.laid_unicode_utf8_first)]

theorem readings {H : Type} {enc : TypeId × Value → H} {P : Program} {w : World} {spare : Nat → Bool} {n0 n1 n2 n3 n4 n5 n6 : String} {gs : List (DataW H)} {ps : List MemPlace} (h : DataW.TrodVars enc P w spare [n0, n1, n2, n3, n4, n5, n6] gs ps) : ∃ gv0 gv1 gv2 gv3 gv4 gv5 gv6 : DataW H, gs = [gv0, gv1, gv2, gv3, gv4, gv5, gv6] := by
  cases gs with
  | nil => simp [DataW.TrodVars] at h
  | cons g0 gs =>
  obtain ⟨_, _, _, _, _, _, _, _, _, _, h, _⟩ := h
  cases gs with
  | nil => simp [DataW.TrodVars] at h
  | cons g1 gs =>
  obtain ⟨_, _, _, _, _, _, _, _, _, _, h, _⟩ := h
  cases gs with
  | nil => simp [DataW.TrodVars] at h
  | cons g2 gs =>
  obtain ⟨_, _, _, _, _, _, _, _, _, _, h, _⟩ := h
  cases gs with
  | nil => simp [DataW.TrodVars] at h
  | cons g3 gs =>
  obtain ⟨_, _, _, _, _, _, _, _, _, _, h, _⟩ := h
  cases gs with
  | nil => simp [DataW.TrodVars] at h
  | cons g4 gs =>
  obtain ⟨_, _, _, _, _, _, _, _, _, _, h, _⟩ := h
  cases gs with
  | nil => simp [DataW.TrodVars] at h
  | cons g5 gs =>
  obtain ⟨_, _, _, _, _, _, _, _, _, _, h, _⟩ := h
  cases gs with
  | nil => simp [DataW.TrodVars] at h
  | cons g6 gs =>
  obtain ⟨_, _, _, _, _, _, _, _, _, _, h, _⟩ := h
  obtain ⟨rfl, _⟩ := trodVars_none h
  exact ⟨g0, g1, g2, g3, g4, g5, g6, rfl⟩

theorem own : ownKnob Tryd.prog.godebug = none := by kernel_rfl

/-! ### STEP 1: THE WALK: the Go text returns true. 'Grown w w'': the world has at most new blocks (Derived/RowKit3.lean). Part the cases AHEAD of 'go_enter' where a test parts the walk; take each callee by a contract of your own. -/
set_option maxHeartbeats 4000000 in
theorem walk (a0_0 a0_1 a0_2 a0_3 a0_4 a0_5 a0_6 a0_7 a0_8 a0_9 a0_10 a0_11 a0_12 a0_13 a0_14 : Int) (w0 : ∀ z ∈ [a0_0, a0_1, a0_2, a0_3, a0_4, a0_5, a0_6, a0_7, a0_8, a0_9, a0_10, a0_11, a0_12, a0_13, a0_14], (Lit.int .i64 z).wf = true) (w : World) (hL : laidMetH Tryd.prog laidL w) (hS : w.ShapedOpen Tryd.prog) :
    Calls Tryd.prog 9 #[.agg #[.int .i64 a0_0, .int .i64 a0_1, .int .i64 a0_2, .int .i64 a0_3, .int .i64 a0_4, .int .i64 a0_5, .int .i64 a0_6, .int .i64 a0_7, .int .i64 a0_8, .int .i64 a0_9, .int .i64 a0_10, .int .i64 a0_11, .int .i64 a0_12, .int .i64 a0_13, .int .i64 a0_14]] w fun e w' => e = .returned (.bool true) ∧ Below w.heap.size w w' := by
  have hT : STabs w := stabsH9 (by kernel_rfl) hL
  obtain ⟨r, hr⟩ : ∃ r, aOkB a0_0 a0_1 a0_2 a0_3 a0_4 a0_5 a0_6 a0_7 a0_8 a0_9 a0_10 a0_11 a0_12 a0_13 a0_14 = r := ⟨_, rfl⟩
  have hM : MaxLenAt w := maxLen_of hS
  have cs := fun W => wordCount_spec a0_0 a0_1 a0_2 a0_3 a0_4 a0_5 a0_6 a0_7 a0_8 a0_9 a0_10 a0_11 a0_12 a0_13 a0_14 W r hr
  have ci := fun W (hb : Below w.heap.size w W) => wordCount_impl a0_0 a0_1 a0_2 a0_3 a0_4 a0_5 a0_6 a0_7 a0_8 a0_9 a0_10 a0_11 a0_12 a0_13 a0_14 W r hr (hT.below hb) (hM.below hb)
  clear hr
  generalize (if r = true then ((wordsL (armsN a0_0 a0_1 a0_2 a0_3 a0_4 a0_5 a0_6 a0_7 a0_8 a0_9 a0_10 a0_11 a0_12 a0_13 a0_14)).length : Int) else 0) = t at *
  have CT := Lib.hid (fun W => toArms_any a0_0 a0_1 a0_2 a0_3 a0_4 a0_5 a0_6 a0_7 a0_8 a0_9 a0_10 a0_11 a0_12 a0_13 a0_14 W)
  have CS := Lib.hid cs
  have CI := Lib.hid ci
  clear hT hL hM hS w0 cs ci
  have bx := BoxF.new w [.int .i64 a0_0, .int .i64 a0_1, .int .i64 a0_2, .int .i64 a0_3, .int .i64 a0_4, .int .i64 a0_5, .int .i64 a0_6, .int .i64 a0_7, .int .i64 a0_8, .int .i64 a0_9, .int .i64 a0_10, .int .i64 a0_11, .int .i64 a0_12, .int .i64 a0_13, .int .i64 a0_14] 47
  obtain ⟨x0, x1, x2, x3, x4, x5, x6, x7, x8, x9, x10, x11, x12, x13, x14, xf⟩ := bx.fifteen
  cases r
  all_goals
    go_enter Tryd.func9, Tryd.ntmps9
    go_wp2_with fail
    refine (CT.out _).mono ?_
    rintro e w1 ⟨rfl, h1⟩
    clear x0 x1 x2 x3 x4 x5 x6 x7 x8 x9 x10 x11 x12 x13 x14 xf
    have X1 := Lib.hid (bx.below h1)
    have B1 := Lib.hid (((Below.refl _ w).alloc (Nat.le_refl _) _).trans (h1.mono (by simp)))
    clear h1 bx
    go_wp2_with fail
    refine (CS.out _).mono ?_
    rintro e w2 ⟨rfl, h2⟩
    have bx := X1.out.below h2
    have B2 := Lib.hid (B1.out.trans (h2.mono B1.out.size))
    clear h2 B1 X1
    obtain ⟨x0, x1, x2, x3, x4, x5, x6, x7, x8, x9, x10, x11, x12, x13, x14, xf⟩ := bx.fifteen
    clear bx
    go_wp2_with fail
    refine (CT.out _).mono ?_
    rintro e w3 ⟨rfl, h3⟩
    clear x0 x1 x2 x3 x4 x5 x6 x7 x8 x9 x10 x11 x12 x13 x14 xf
    have B3 := Lib.hid (B2.out.trans (h3.mono B2.out.size))
    clear h3 B2
    go_wp2_with fail
    refine (CI.out _ B3.out).mono ?_
    rintro e w4 ⟨rfl, h4⟩
    have B4 := Lib.hid (B3.out.trans (h4.mono B3.out.size))
    clear h4 B3
    go_wp2_with fail
    go_ret
    exact ⟨rfl, B4.out⟩

/-! ### THE ROW's STEP: WRITTEN OUT: LEAVE IT -/
set_option maxRecDepth 100000 in
set_option maxHeartbeats 4000000 in
theorem lifted (os : Os) (started : os.Started) (H : Type) (enc : TypeId × Value → H) :
    ReturnsInHanded {} Tryd.checked os 9 .any (fun w args => (Rows.fnExactWordCountSpec.pre enc Tryd.prog Tryd.f9 Rows.fnExactWordCountRow.domain false w args ∧ laidMetH Tryd.prog laidL w) ∧ sizedMet enc Tryd.prog Tryd.f9 (OpenSpec.ofChange Rows.fnExactWordCountSpec) false w args)
      (Rows.fnExactWordCountSpec.post enc Tryd.prog Tryd.f9 false true false false) := by
  refine returns_and_shaped (C := Tryd.checked) (X := fun w _ => laidMetH Tryd.prog laidL w) (fun _ _ _ hh h => h.of_heap hh) own started (by kernel_rfl) Tryd.func9
    (ChangeSpec.witness_shaped (enc := enc) (C := Tryd.checked) (os := os) (X := fun w _ => laidMetH Tryd.prog laidL w) false (World.laidAll Tryd.prog os laidL) #[.agg #[.int .i64 0, .int .i64 0, .int .i64 0, .int .i64 0, .int .i64 0, .int .i64 0, .int .i64 0, .int .i64 0, .int .i64 0, .int .i64 0, .int .i64 0, .int .i64 0, .int .i64 0, .int .i64 0, .int .i64 0]] 8 (World.laidAll_os _ _ _) (World.shaped_of_ZipB (by kernel_rfl) (by kernel_rfl)) (by kernel_rfl) (by kernel_rfl) (by kernel_rfl) (by rw [MakeChecks.laidMetH_plain _ _ _ (by kernel_rfl)]; exact laidMet_laidAll _ (by kernel_rfl) (by kernel_rfl))) ?_
  intro W base args ds gs before hsh hval0 hW _ hsz0 hL _
  have hval : ∀ (j : Nat) t v, Tryd.f9.params[j]? = some t → args[j]? = some v → Value.okWide Tryd.prog W .any base t v := hval0
  have hW' := hW
  obtain ⟨p, q, hA0, hV, rfl, hfz, hnd⟩ := hW
  have hA : DataW.TrodAll enc Tryd.prog W 0 (fun _ => true) true Tryd.f9.params.toList args.toList ds p := hA0
  rw [Tryd.params9] at hA hval
  obtain ⟨v0, vs0, d0, ds0, p0, q0, hargs, rfl, rfl, h0, r0⟩ := trodAll_cons hA
  obtain ⟨rfl, rfl, rfl⟩ := trodAll_nil r0
  obtain rfl : args = #[v0] := by cases args; simp_all
  obtain ⟨gv0, gv1, gv2, gv3, gv4, gv5, gv6, hgs⟩ := readings hV
  subst hgs
  have k0 := h0
  have lt0 : ∀ x ∈ p0, x.block < W.heap.size := by obtain ⟨m, hm⟩ := k0; exact DataW.trod_lt m _ _ _ hm
  obtain ⟨a0_0, a0_1, a0_2, a0_3, a0_4, a0_5, a0_6, a0_7, a0_8, a0_9, a0_10, a0_11, a0_12, a0_13, a0_14, rfl, w0⟩ : ∃ a0_0 a0_1 a0_2 a0_3 a0_4 a0_5 a0_6 a0_7 a0_8 a0_9 a0_10 a0_11 a0_12 a0_13 a0_14 : Int, v0 = .agg #[.int .i64 a0_0, .int .i64 a0_1, .int .i64 a0_2, .int .i64 a0_3, .int .i64 a0_4, .int .i64 a0_5, .int .i64 a0_6, .int .i64 a0_7, .int .i64 a0_8, .int .i64 a0_9, .int .i64 a0_10, .int .i64 a0_11, .int .i64 a0_12, .int .i64 a0_13, .int .i64 a0_14] ∧ ∀ z ∈ [a0_0, a0_1, a0_2, a0_3, a0_4, a0_5, a0_6, a0_7, a0_8, a0_9, a0_10, a0_11, a0_12, a0_13, a0_14], (Lit.int .i64 z).wf = true := by
    obtain ⟨zs, hl, rfl, hw⟩ := flat_open (n := 15) Tryd.underlying47 (by kernel_rfl) (by kernel_rfl) (hval 0 47 v0 rfl rfl) h0
    obtain ⟨a0_0, a0_1, a0_2, a0_3, a0_4, a0_5, a0_6, a0_7, a0_8, a0_9, a0_10, a0_11, a0_12, a0_13, a0_14, rfl⟩ := cells15 hl
    exact ⟨a0_0, a0_1, a0_2, a0_3, a0_4, a0_5, a0_6, a0_7, a0_8, a0_9, a0_10, a0_11, a0_12, a0_13, a0_14, rfl, hw⟩
  clear hA0 hval0
  refine (walk a0_0 a0_1 a0_2 a0_3 a0_4 a0_5 a0_6 a0_7 a0_8 a0_9 a0_10 a0_11 a0_12 a0_13 a0_14 w0 W hL hsh).mono fun e W' ⟨he, bel⟩ => ?_
  subst he
  exact ⟨_, rfl, _, _, _, [], _, q, hW', (trodAll_cons_mk (shut_bool Tryd.underlying4 _) trodAll_mk0), (trodAll_cons_mk (Below.trod (by kernel_rfl) (by kernel_rfl) (of_decide_eq_true (by kernel_rfl)) k0 bel lt0) trodAll_mk0), Below.trodVars (by kernel_rfl) bel (by kernel_rfl) hV, bel.frame _, fun h => by cases h⟩

theorem over : Rows.fnExactWordCountRow.holds Tryd.pinned (OpenSpec.ofChange Rows.fnExactWordCountSpec) :=
  OpenClaim.holds_of_wide 9 Tryd.f9 rfl rfl rfl rfl rfl rfl rfl ⟨rfl, rfl, rfl, rfl, rfl⟩ rfl rfl rfl rfl rfl (by kernel_rfl) Tryd.func9 (by kernel_rfl)
    (of_decide_eq_true (by kernel_rfl)) (by unfold Func.isWrapper; first | (rw [if_pos (by decide +kernel)]; kernel_rfl) | (rw [if_neg (by decide +kernel)]; exact ⟨rfl, rfl⟩))
    (fun os started H enc _ => lifted os started H enc)

/-- The row's statement. -/
theorem proved : Rows.FnExactWordCountSaid :=
  over

/-- THE TIED CARD: the listed variables are those that the program's own text lays. -/
theorem card : Rows.FnExactWordCountCardSaid :=
  Claim7.holds_tied_plain_at .later [] [.data, .data, .widerDeep, .widerDeep, .widerDeep, .widerDeep, .widerDeep, .widerDeep, .pinned] true (true, "c1e30132f1301c75a91746f8ff202ccab251c7c0a8f989c87d959498e36b1b6b") false
    proved (fun _ h => by cases h) (by kernel_rfl) (fun _ h => by cases h) fnExactWordCount_row_tie rfl ⟨rfl, rfl⟩ (by kernel_rfl) rfl
    (fun f fn hf hfn => by
      obtain rfl : f = 9 := Option.some.inj ((show Tryd.prog.funcNamed "loop.example/g00884/laws.FnExactWordCount" = some 9 by kernel_rfl).symm.trans hf) |>.symm
      obtain rfl : fn = Tryd.f9 := (Option.some.inj (Tryd.func9.symm.trans hfn)).symm
      exact ⟨by kernel_rfl, fun j t ht => by
        rw [Tryd.params9] at ht
        have hm : t ∈ [47] := by
          have := Array.mem_of_getElem? ht
          first | simpa using this | (simp at this ⊢; omega) | (simp at this ⊢; rcases this with h | h <;> simp [h])
        have hall : ([47].all fun u => !Tryd.prog.wantsStandIn u) = true := by kernel_rfl
        exact (show Tryd.prog.wantsStandIn t = false by simpa using List.all_eq_true.1 hall t hm)⟩)
    (by kernel_rfl)
#print axioms card
end Go.Proofs.YtgeidnnjljpdkaaDoor.fnExactWordCount
