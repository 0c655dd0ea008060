/- FnExactFieldTinctures: at every field the law returns true: FieldTinctures of the program answers as its model does, in memory of its own. No condition. -/
import Derived.Test.YtmogabnngphfgaaRows
import Derived.WalkKit
import Derived.ProofKit
import Derived.OpenShut
import Derived.ShutString
import Derived.Test.YtmogabnngphfgaaFLaw
import Derived.Below
import Derived.Test.YtmogabnngphfgaaFlat
namespace Go.Proofs.Ytmogabnngphfgaa.fnExactFieldTinctures
open Go.ChangeShapes Go.WideShapes Go.ChangeAt Go.RowKit
open Go.ChangeMaps (open_string shut_string)
set_option linter.unusedVariables false      -- a walk need not use every 'w<i>' (that an integer argument fits its kind)

theorem cells4 {zs : List Int} (h : zs.length = 4) : ∃ x0 x1 x2 x3 : Int, zs = [x0, x1, x2, x3] := by
  match zs, h with
  | [x0, x1, x2, x3], _ => exact ⟨x0, x1, x2, x3, rfl⟩

theorem own : ownKnob Try.prog.godebug = none := by kernel_rfl

/-! ### STEP 1: THE WALK: the Go text returns true. 'Grown w w'': the world has at most new blocks (Derived/RowKit3.lean). Part the cases AHEAD of 'go_enter' where a test parts the walk; take each callee by a contract of your own. -/
theorem walk (a0_0 a0_1 a0_2 a0_3 : Int) (w0 : ∀ z ∈ [a0_0, a0_1, a0_2, a0_3], (Lit.int .i64 z).wf = true) (w : World) :
    Calls Try.prog 5 #[.agg #[.int .i64 a0_0, .int .i64 a0_1, .int .i64 a0_2, .int .i64 a0_3]] w fun e w' => e = .returned (.bool true) ∧ Below w.heap.size w w' := by
  obtain ⟨X, ok, hX, CS, CI⟩ : ∃ (X : List Int) (ok : Bool), X.length ≤ 1000 ∧ (∀ W, Calls Try.prog 18 #[.agg #[.int .i64 a0_0, .int .i64 a0_1, .int .i64 a0_2, .int .i64 a0_3]] W (Ans W X ok)) ∧ (∀ W, Calls Try.prog 19 #[.agg #[.int .i64 a0_0, .int .i64 a0_1, .int .i64 a0_2, .int .i64 a0_3]] W (Ans W X ok)) := by
    by_cases h : FOk a0_0 a0_1 a0_2 a0_3
    · exact ⟨_, true, Nat.le_trans (tincL_len a0_0 a0_2 a0_3) (by omega), fun W => fieldTinctures_spec _ _ _ _ W h, fun W => fieldTinctures_impl _ _ _ _ W h⟩
    · exact ⟨[], false, by simp, fun W => fieldTinctures_spec_no _ _ _ _ W h, fun W => fieldTinctures_impl_no _ _ _ _ W h⟩
  clear w0
  have HT := Lib.hid (fun W => toField_any a0_0 a0_1 a0_2 a0_3 W)
  obtain ⟨N, hN⟩ : ∃ N, X.length = N := ⟨_, rfl⟩
  have HN := Lib.hid hN
  have hX2 : N ≤ 1000 := by omega
  have e0 : decide ((1 : Int) + (N : Int) < 0) = false := by simp; omega
  unfold Ans at CS CI
  rw [hN] at CS CI
  clear hX hN
  have HS := Lib.hid CS
  have HI := Lib.hid CI
  clear CS CI
  cases ok
  all_goals
    go_enter Try.func5, Try.ntmps5
    go_wp2_with fail
    refine (HT.out _).mono ?_
    rintro e V1 ⟨rfl, d1⟩
    have X1 := Lib.hid ((Box.new w [.int .i64 a0_0, .int .i64 a0_1, .int .i64 a0_2, .int .i64 a0_3] 30).below d1)
    have D1 := Lib.hid (((Below.refl _ w).alloc (Nat.le_refl _) _).trans (d1.mono (by simp)))
    clear d1
    go_wp2_with fail
    refine (HS.out _).mono ?_
    rintro e W1 ⟨g0, c0, rfl, ho0v, hb1v⟩
    have X2 := X1.out.below hb1v
    have HX2 := Lib.hid X2
    have hx1 := X2.1
    have c0 := X2.2 0 _ rfl
    have c1 := X2.2 1 _ rfl
    have c2 := X2.2 2 _ rfl
    have c3 := X2.2 3 _ rfl
    have HB1 := Lib.hid (D1.out.trans (hb1v.mono D1.out.size))
    have HO0 := Lib.hid (ho0v.low D1.out.size)
    clear ho0v hb1v X2 X1 D1
    go_wp2_with fail
    refine (HT.out _).mono ?_
    rintro e V2 ⟨rfl, d2⟩
    have D2 := Lib.hid d2
    clear d2 c0 c1 c2 c3
    go_wp2_with fail
    refine (HI.out _).mono ?_
    rintro e W2 ⟨g1, cc1, rfl, ho1v, hb2v⟩
    have hb2 := D2.out.trans (hb2v.mono D2.out.size)
    have ho1 := ho1v.low D2.out.size
    have ho0 := HO0.out
    have hb1 := HB1.out
    have X3 := HX2.out.below hb2
    have r0 := ho0.rd.below hb2
    have r1 := ho1.rd
    have R0 := Lib.hid r0
    have R1 := Lib.hid r1
    have X3' := Lib.hid X3
    have K1 := Lib.hid (And.intro ho1 (And.intro ho0 (And.intro hb1 hb2)))
    clear ho1v hb2v D2 HO0 HB1 HX2 ho0 ho1 hb1 hb2 r0 r1 X3
    go_wp2_with fail
    refine (eqIntS_true X N _ _ _ _ _ R1.out R0.out (by omega)).mono ?_
    rintro e W2' ⟨rfl, m, rfl⟩
    go_wp2_with fail
    refine (mark1 X N W1.heap.size cc1 g1 (W2.drewN m) K1.out.1 (by omega)).mono ?_
    rintro e W3 ⟨rfl, ho3, hg3⟩
    have r0 := R0.out
    have ho0 := K1.out.2.1
    have ho1 := K1.out.1
    have hb1 := K1.out.2.2.1
    have hb2 := K1.out.2.2.2
    have hs1 := hb1.size
    have hs2 := hb2.size
    have hne : (Value.slice g1 N cc1).ownBlock ≠ some w.heap.size := fun e2 => by
      have := (World.ownsRow.lt ho1 _ e2).1
      omega
    have X4 := (show Box (W2.drewN m) w.heap.size _ from X3'.out).kept hg3 hne
    have r0' : RdI W3 g0 N X := ⟨r0.1, fun hn => by
      obtain ⟨b, o, e, hlt, hc⟩ := ho0.rd.2 hn
      obtain ⟨b', o', e', hlt', hc'⟩ := r0.2 hn
      rw [e] at e'
      cases e'
      refine ⟨b, o, e, Nat.lt_of_lt_of_le hlt' hg3.size, fun k hk => (hg3.cell (hc' k hk) (fun e2 => ?_))⟩
      rcases ho1.shape with ⟨rfl, h0, _⟩ | ⟨q, rfl, hq, _⟩
      · omega
      · simp [Value.ownBlock] at e2; omega⟩
    have r3 := ho3.rd
    have B3 : Below w.heap.size w W3 := (below_drewN' (hb1.trans (hb2.mono hs1)) m).grown hg3 (Nat.le_trans hs1 hs2) (fun q hq => by
      have := (World.ownsRow.lt ho1 q hq).1
      omega)
    have c0 := X4.2 0 _ rfl
    have c1 := X4.2 1 _ rfl
    have c2 := X4.2 2 _ rfl
    have c3 := X4.2 3 _ rfl
    have R0' := Lib.hid r0'
    have R3 := Lib.hid r3
    have HB3 := Lib.hid B3
    clear r0 r0' r3 B3 hg3 ho3 ho0 ho1 hb1 hb2 hs1 hs2 hne X4 X3' R0 R1 K1
    go_wp2_with fail
    refine (held1 N _ _ _ R3.out (by omega)).mono ?_
    rintro e W4 ⟨rfl, m4, rfl⟩
    go_wp2_with fail
    refine (HT.out _).mono ?_
    rintro e V5 ⟨rfl, d5⟩
    have D5 := Lib.hid d5
    clear d5 c0 c1 c2 c3
    go_wp2_with fail
    refine (HI.out _).mono ?_
    rintro e W5 ⟨g2, cc2, rfl, ho2, hb5v⟩
    have hb5 := D5.out.trans (hb5v.mono D5.out.size)
    have Q2 := Lib.hid ho2.rd
    have Q0 := Lib.hid ((R0'.out.drewN m4).below hb5)
    have Q3 := Lib.hid ((R3.out.drewN m4).below hb5)
    have HB5 := Lib.hid ((below_drewN' HB3.out m4).trans (hb5.mono (below_drewN' HB3.out m4).size))
    clear ho2 hb5v hb5 D5 R0' R3 HB3
    go_wp2_with fail
    refine (eqIntS_true X N _ _ _ _ _ Q2.out Q0.out (by omega)).mono ?_
    rintro e W5' ⟨rfl, m', rfl⟩
    go_wp2_with fail
    refine (held1 N _ _ (W5.drewN m') (Q3.out.drewN m') (by omega)).mono ?_
    rintro e W6 ⟨rfl, m6, rfl⟩
    go_wp2_with fail
    go_ret
    exact ⟨rfl, below_drewN' HB5.out _⟩

/-! ### THE ROW's STEP: WRITTEN OUT: LEAVE IT -/
set_option maxRecDepth 100000 in
set_option maxHeartbeats 4000000 in
theorem lifted (os : Os) (started : os.Started) (H : Type) (enc : TypeId × Value → H) :
    ReturnsInHanded {} Try.checked os 5 .any (Rows.fnExactFieldTincturesSpec.pre6 enc Try.prog Try.f5 Rows.fnExactFieldTincturesRow.domain false) (Rows.fnExactFieldTincturesSpec.post enc Try.prog Try.f5 false true false false) := by
  refine returnsInHanded_of_change (C := Try.checked) own started (by kernel_rfl) Try.func5
    (ChangeSpec.witness6 (enc := enc) (C := Try.checked) false ⟨#[], #[.agg #[.int .i64 0, .int .i64 0, .int .i64 0, .int .i64 0]], []⟩ 8 (by kernel_rfl) (by kernel_rfl) (by kernel_rfl) (by kernel_rfl)) ?_
  intro W base args ds gs before hval0 hW hcnd _
  have hval : ∀ (j : Nat) t v, Try.f5.params[j]? = some t → args[j]? = some v → Value.okWide Try.prog W .any base t v := hval0
  have hW' := hW
  obtain ⟨p, q, hA0, hV, rfl, hfz, hnd⟩ := hW
  have hA : DataW.TrodAll enc Try.prog W 0 (fun _ => true) true Try.f5.params.toList args.toList ds p := hA0
  rw [Try.params5] at hA hval
  obtain ⟨v0, vs0, d0, ds0, p0, q0, hargs, rfl, rfl, h0, r0⟩ := trodAll_cons hA
  obtain ⟨rfl, rfl, rfl⟩ := trodAll_nil r0
  obtain rfl : args = #[v0] := by cases args; simp_all
  obtain ⟨rfl, rfl⟩ := trodVars_none hV
  have k0 := h0
  have lt0 : ∀ x ∈ p0, x.block < W.heap.size := by obtain ⟨m, hm⟩ := k0; exact DataW.trod_lt m _ _ _ hm
  obtain ⟨a0_0, a0_1, a0_2, a0_3, rfl, w0⟩ : ∃ a0_0 a0_1 a0_2 a0_3 : Int, v0 = .agg #[.int .i64 a0_0, .int .i64 a0_1, .int .i64 a0_2, .int .i64 a0_3] ∧ ∀ z ∈ [a0_0, a0_1, a0_2, a0_3], (Lit.int .i64 z).wf = true := by
    obtain ⟨zs, hl, rfl, hw⟩ := flat_open (n := 4) Try.underlying30 (by kernel_rfl) (by kernel_rfl) (hval 0 30 v0 rfl rfl) h0
    obtain ⟨a0_0, a0_1, a0_2, a0_3, rfl⟩ := cells4 hl
    exact ⟨a0_0, a0_1, a0_2, a0_3, rfl, hw⟩
  clear hA0 hval0
  refine (walk a0_0 a0_1 a0_2 a0_3 w0 W).mono fun e W' ⟨he, bel⟩ => ?_
  subst he
  exact ⟨_, rfl, _, _, _, [], _, [], hW', (trodAll_cons_mk (shut_bool Try.underlying4 _) trodAll_mk0), (trodAll_cons_mk (Below.trod (by kernel_rfl) (by kernel_rfl) (of_decide_eq_true (by kernel_rfl)) k0 bel lt0) trodAll_mk0), rfl, bel.frame _, fun h => by cases h⟩

theorem over : Rows.fnExactFieldTincturesRow.holds Try.pinned (OpenSpec.ofChange Rows.fnExactFieldTincturesSpec) :=
  OpenClaim.holds_of_wide 5 Try.f5 rfl rfl rfl rfl rfl rfl rfl ⟨rfl, rfl, rfl, rfl, rfl⟩ rfl rfl rfl rfl rfl (by kernel_rfl) Try.func5 (by kernel_rfl)
    (of_decide_eq_true (by kernel_rfl)) (by unfold Func.isWrapper; first | (rw [if_pos (by decide +kernel)]; kernel_rfl) | (rw [if_neg (by decide +kernel)]; exact ⟨rfl, rfl⟩))
    (fun os started H enc _ => lifted os started H enc)

/-- ████ THE STATEMENT ████ -/
theorem proved : Rows.FnExactFieldTincturesSaid :=
  over
#print axioms proved
end Go.Proofs.Ytmogabnngphfgaa.fnExactFieldTinctures
