/- FnExactSplitString: at every two strings the law returns true: SplitString of the program answers as its model does, and two answers share no memory. No condition. -/
import Derived.Test.YtacpacllpjddlaaRows
import Derived.WalkKit
import Derived.ProofKit
import Derived.OpenShut
import Derived.ShutString
import Derived.Test.YtacpacllpjddlaaSplitCalls
import Derived.Below
namespace Go.Proofs.Ytacpacllpjddlaa.fnExactSplitString
open Go.ChangeShapes Go.WideShapes Go.ChangeAt Go.RowKit
open Go.ChangeMaps (open_string shut_string)
set_option linter.unusedVariables false      -- a walk need not use every 'w<i>' (that an integer argument fits its kind)

theorem own : ownKnob Try.prog.godebug = none := by kernel_rfl

/-! ### STEP 1: THE WALK: the Go text returns true. 'Grown w w'': the world has at most new blocks (Derived/RowKit3.lean). Part the cases AHEAD of 'go_enter' where a test parts the walk; take each callee by a contract of your own. -/
theorem walk (a0 : ByteArray) (a1 : ByteArray) (w0 : a0.size ≤ maxLen) (w1 : a1.size ≤ maxLen) (w : World) :
    Calls Try.prog 4 #[.string a0, .string a1] w fun e w' => e = .returned (.bool true) ∧ Below w.heap.size w w' := by
  by_cases h1 : (1048576 : Int) < (a0.size : Int)
  · go_enter Try.func4, Try.ntmps4
    go_wp2_with fail
    go_ret
    exact ⟨rfl, Below.refl _ _⟩
  · by_cases h2 : (1048576 : Int) < (a1.size : Int)
    · go_enter Try.func4, Try.ntmps4
      go_wp2_with fail
      go_ret
      exact ⟨rfl, Below.refl _ _⟩
    · by_cases h : (4000 : Int) < (a0.size : Int) ∨ a1.size ≠ 1
      · have cs := splitSpec_no a0 a1 w h
        have ci := fun wx => splitImpl_no a0 a1 wx h
        clear h
        go_enter Try.func4, Try.ntmps4
        go_wp2_with (first
          | (go_at_call 17; refine cs.mono ?_; rintro e w1 ⟨rfl, hb⟩)
          | (go_at_call 10; refine (ci _).mono ?_; rintro e w2 ⟨rfl, rfl⟩)
          | (go_at_call 18; refine (eqStringS_true [] 0 _ _ _ _ _ ⟨rfl, fun h => by omega⟩ ⟨rfl, fun h => by omega⟩ (by omega)).mono ?_; rintro e w3 ⟨rfl, m, rfl⟩)
          | (go_at_call 19; refine (mark1_nil _ _ _).mono ?_; rintro e w4 ⟨rfl, rfl⟩)
          | (go_at_call 20; refine (held1_nil _ _ _).mono ?_; rintro e w5 ⟨rfl, rfl⟩))
        go_ret
        exact ⟨rfl, below_drewN' hb _⟩
      · obtain ⟨c, rfl⟩ := one_byte (s := a1) (by omega)
        have hs : a0.size ≤ 4000 := by omega
        have hN : (splitL c a0.data.toList).length ≤ 4001 := by
          have h3 := (splitL_len c a0.data.toList).2
          have h4 : a0.data.toList.length = a0.size := by simp
          omega
        obtain ⟨N, hNN⟩ : ∃ N, (splitL c a0.data.toList).length = N := ⟨_, rfl⟩
        obtain ⟨X, hX⟩ : ∃ X, (splitL c a0.data.toList).map strOf = X := ⟨_, rfl⟩
        have cs := fun wx => splitSpec_yes a0 c hs wx
        have ci := fun wx => splitImpl_yes a0 c hs wx
        rw [hNN, hX] at cs ci
        rw [hNN] at hN
        have e0 : decide ((1 : Int) + (N : Int) < 0) = false := by simp; omega
        clear h hNN hX
        go_enter Try.func4, Try.ntmps4
        go_wp2_with fail
        refine (cs _).mono ?_
        rintro e W1 ⟨g0, c0, rfl, ho0, hb1⟩
        go_wp2_with fail
        refine (ci _).mono ?_
        rintro e W2 ⟨g1, c1, rfl, ho1, hb2⟩
        have r0 := (rd_of_own ho0).below hb2
        have r1 := rd_of_own ho1
        go_wp2_with fail
        refine (eqStringS_true X N _ _ _ _ _ r1 r0 (by omega)).mono ?_
        rintro e W2' ⟨rfl, m, rfl⟩
        go_wp2_with fail
        refine (mark1 X N g1 c1 W1.heap.size (W2.drewN m) ho1 (by omega)).mono ?_
        rintro e W3 ⟨rfl, ho3, hg3⟩
        have hlt0 := (ho0.lt g0 rfl).2
        have hlt1 := (ho1.lt g1 rfl).1
        have hne : g0 ≠ g1 := by omega
        have r0' : RdS W3 (some ⟨g0, 0, none⟩) N X := ⟨r0.1, fun hn => by
          obtain ⟨b, o, e, hlt, hc⟩ := r0.2 hn
          cases e
          exact ⟨g0, 0, rfl, Nat.lt_of_lt_of_le hlt hg3.size, fun k hk => (hg3.cell (hc k hk) (fun e => hne (by simpa using e)))⟩⟩
        have r3 := rd_of_own ho3
        have hs1 := hb1.size
        have hs2 := hb2.size
        have B3 : Below w.heap.size w W3 := (below_drewN' (hb1.trans (hb2.mono hs1)) m).grown hg3 (Nat.le_trans hs1 hs2) (fun q hq => by cases hq; omega)
        clear r0 r1 hg3
        go_wp2_with fail
        refine (held1 N _ _ _ r3 (by omega)).mono ?_
        rintro e W4 ⟨rfl, hb4⟩
        go_wp2_with fail
        refine (ci _).mono ?_
        rintro e W5 ⟨g2, c2, rfl, ho2, hb5⟩
        go_wp2_with fail
        refine (eqStringS_true X N _ _ _ _ _ (rd_of_own ho2) ((r0'.below hb4).below hb5) (by omega)).mono ?_
        rintro e W5' ⟨rfl, m', rfl⟩
        go_wp2_with fail
        refine (held1 N _ _ (W5.drewN m') (((r3.below hb4).below hb5).drewN m') (by omega)).mono ?_
        rintro e W6 ⟨rfl, hb6⟩
        go_wp2_with fail
        go_ret
        have B4 := B3.trans (hb4.mono B3.size)
        have B5 := below_drewN' (B4.trans (hb5.mono B4.size)) m'
        exact ⟨rfl, B5.trans (hb6.mono B5.size)⟩

/-! ### THE ROW's STEP: WRITTEN OUT: LEAVE IT -/
set_option maxRecDepth 100000 in
theorem lifted (os : Os) (started : os.Started) (H : Type) (enc : TypeId × Value → H) :
    ReturnsInHanded {} Try.checked os 4 .any (Rows.fnExactSplitStringSpec.pre6 enc Try.prog Try.f4 Rows.fnExactSplitStringRow.domain false) (Rows.fnExactSplitStringSpec.post enc Try.prog Try.f4 false true false false) := by
  refine returnsInHanded_of_change (C := Try.checked) own started (by kernel_rfl) Try.func4
    (ChangeSpec.witness6 (enc := enc) (C := Try.checked) false ⟨#[], #[.string ByteArray.empty, .string ByteArray.empty], []⟩ 8 (by kernel_rfl) (by kernel_rfl) (by kernel_rfl) (by kernel_rfl)) ?_
  intro W base args ds gs before hval0 hW hcnd _
  have hval : ∀ (j : Nat) t v, Try.f4.params[j]? = some t → args[j]? = some v → Value.okWide Try.prog W .any base t v := hval0
  have hW' := hW
  obtain ⟨p, q, hA0, hV, rfl, hfz, hnd⟩ := hW
  have hA : DataW.TrodAll enc Try.prog W 0 (fun _ => true) true Try.f4.params.toList args.toList ds p := hA0
  rw [Try.params4] at hA hval
  obtain ⟨v0, vs0, d0, ds0, p0, q0, hargs, rfl, rfl, h0, r0⟩ := trodAll_cons hA
  obtain ⟨v1, vs1, d1, ds1, p1, q1, rfl, rfl, rfl, h1, r1⟩ := trodAll_cons r0
  obtain ⟨rfl, rfl, rfl⟩ := trodAll_nil r1
  obtain rfl : args = #[v0, v1] := by cases args; simp_all
  obtain ⟨rfl, rfl⟩ := trodVars_none hV
  obtain ⟨a0, rfl, rfl, rfl, w0⟩ := open_string Try.underlying9 (hval 0 9 v0 rfl rfl) h0
  obtain ⟨a1, rfl, rfl, rfl, w1⟩ := open_string Try.underlying9 (hval 1 9 v1 rfl rfl) h1
  clear hA0 hval0
  simp only [List.append_nil] at hW'
  refine (walk a0 a1 w0 w1 W).mono fun e W' ⟨he, bel⟩ => ?_
  subst he
  exact ⟨_, rfl, _, _, _, [], [], [], hW', (trodAll_cons_mk (shut_bool Try.underlying4 _) trodAll_mk0), (trodAll_cons_mk (shut_string Try.underlying9 w0) (trodAll_cons_mk (shut_string Try.underlying9 w1) trodAll_mk0)), rfl, bel.frame _, fun h => by cases h⟩

theorem over : Rows.fnExactSplitStringRow.holds Try.pinned (OpenSpec.ofChange Rows.fnExactSplitStringSpec) :=
  OpenClaim.holds_of_wide 4 Try.f4 rfl rfl rfl rfl rfl rfl rfl ⟨rfl, rfl, rfl, rfl, rfl⟩ rfl rfl rfl rfl rfl (by kernel_rfl) Try.func4 (by kernel_rfl)
    (of_decide_eq_true (by kernel_rfl)) (by unfold Func.isWrapper; first | (rw [if_pos (by decide +kernel)]; kernel_rfl) | (rw [if_neg (by decide +kernel)]; exact ⟨rfl, rfl⟩))
    (fun os started H enc _ => lifted os started H enc)

/-- ████ THE STATEMENT ████ -/
theorem proved : Rows.FnExactSplitStringSaid :=
  over
#print axioms proved
end Go.Proofs.Ytacpacllpjddlaa.fnExactSplitString
