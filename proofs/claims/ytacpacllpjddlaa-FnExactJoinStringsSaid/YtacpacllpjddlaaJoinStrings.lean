/- FnExactJoinStrings: at every slice of strings and every string the law returns true: JoinStrings of the program answers as its model does and leaves its argument as it was. No condition. -/
import Derived.Test.YtacpacllpjddlaaRows
import Derived.WalkKit
import Derived.ProofKit
import Derived.OpenShut
import Derived.ShutString
import Derived.Test.YtacpacllpjddlaaJoinGo
import Derived.SliceStrings
import Derived.ChangeOld
import Derived.Below
namespace Go.Proofs.Ytacpacllpjddlaa.fnExactJoinStrings
open Go.ChangeShapes Go.WideShapes Go.ChangeAt Go.RowKit
open Go.ChangeMaps (open_string shut_string)
set_option linter.unusedVariables false

theorem own : ownKnob Try.prog.godebug = none := by kernel_rfl
theorem laidOut : laidOutB Try.prog = true := by kernel_rfl

/-- WHAT THE WALK IS TOLD OF A SLICE OF INTEGERS THAT CAME IN: it is nil; or it leads to a row of 'cap' cells, the numbers 'zs' (the first 'len' are its elements, the rest its spare room), each fitting its kind. -/
def IsRow (k : IntKind) (w : World) (a : Option Addr) (len cap : Nat) (zs : List Int) : Prop :=
  (a = none ∧ len = 0 ∧ cap = 0 ∧ zs = []) ∨
  ∃ x, a = some x ∧ len ≤ cap ∧ cap ≤ maxLen ∧ zs.length = cap ∧ (∀ i, i < zs.length → w.cell? (x.add i) = some (.int k (zs.getD i 0))) ∧ ∀ n ∈ zs, (Lit.int k n).wf = true

/-! ### STEP 1: THE WALK: the Go text returns true, AND WRITES NOTHING THAT WAS THERE: 'Below w.heap.size w w'' (Derived/Below.lean: '.refl', '.alloc', '.drew', '.setCell' at a new block, '.trans'). Open each 'IsRow' by 'rcases' AHEAD of 'go_enter'; part every test ahead of the walk. -/
theorem walk (a0 : Option Addr) (len0 cap0 : Nat) (z0 : List ByteArray) (a1 : ByteArray) (w : World) (w0 : IsStrs w a0 len0 cap0 z0) (w1 : a1.size ≤ maxLen) :
    Calls Try.prog 5 #[.slice a0 len0 cap0, .string a1] w fun e w' => e = .returned (.bool true) ∧ Below w.heap.size w w' := by
  obtain ⟨hR, hXs, hlm⟩ := w0.rd
  obtain ⟨X, hXdef⟩ : ∃ X, z0.take len0 = X := ⟨_, rfl⟩
  rw [hXdef] at hR hXs
  clear hXdef w0
  by_cases h1 : (1048576 : Int) < (a1.size : Int)
  · clear hR hXs
    go_enter Try.func5, Try.ntmps5
    go_wp2_with fail
    go_ret
    exact ⟨rfl, Below.refl _ _⟩
  · have csz := szStringS_any X len0 a0 cap0 w hR hlm hXs
    clear hXs
    go_enter Try.func5, Try.ntmps5
    go_wp2_with fail
    refine csz.mono ?_
    rintro e w' ⟨⟨r, rfl, hr⟩, rfl⟩
    by_cases hneg : r < 0
    · clear hr
      go_wp2_with fail
      go_ret
      exact ⟨rfl, Below.refl _ _⟩
    · have hbl : len0 + blen X ≤ 1048576 := by omega
      clear hr csz
      by_cases hno : len0 = 0 ∨ a1.size ≠ 1
      · have CS := fun (g : Nat) (W : World) (_ : W.ownsRow w.heap.size 9 1 (.slice (some ⟨g, 0, none⟩) len0 len0) len0 (X.map Value.string)) => (join_no_spec len0 (some ⟨g, 0, none⟩) len0 a1 W hno).mono fun e w' ⟨he, hw⟩ => (⟨he, by subst hw; exact Below.refl _ _⟩ : e = Ending.returned (.tuple #[.string ByteArray.empty, .bool false]) ∧ Below W.heap.size W w')
        have CI := fun (g : Nat) (W : World) (B : Nat) (_ : W.ownsRow B 9 1 (.slice (some ⟨g, 0, none⟩) len0 len0) len0 (X.map Value.string)) => (join_no_impl len0 (some ⟨g, 0, none⟩) len0 a1 W hno).mono fun e w' ⟨he, hw⟩ => (⟨he, by subst hw; exact Below.refl _ _⟩ : e = Ending.returned (.tuple #[.string ByteArray.empty, .bool false]) ∧ Below W.heap.size W w')
        clear hno
        go_wp2_with fail
        refine (toStringS_any X len0 a0 cap0 w hR (by omega)).mono ?_
        rintro e W1 ⟨g1, rfl, ho1, hb1⟩
        go_wp2_with fail
        refine (CS g1 W1 ho1).mono ?_
        rintro e W2 ⟨rfl, hb2⟩
        go_wp2_with fail
        refine (toStringS_any X len0 a0 cap0 W2 ((hR.below hb1).below hb2) (by omega)).mono ?_
        rintro e W3 ⟨g2, rfl, ho2, hb3⟩
        go_wp2_with fail
        refine (CI g2 W3 W2.heap.size ho2).mono ?_
        rintro e W4 ⟨rfl, hb4⟩
        go_wp2_with fail
        refine (toStringS_any X len0 a0 cap0 W4 ((((hR.below hb1).below hb2).below hb3).below hb4) (by omega)).mono ?_
        rintro e W5 ⟨g3, rfl, ho3, hb5⟩
        go_wp2_with fail
        refine (eqStringS_true X len0 _ _ _ _ _ (((rd_of_own ho2).below hb4).below hb5) (rd_of_own ho3) (by omega)).mono ?_
        rintro e W6 ⟨rfl, m, rfl⟩
        go_wp2_with fail
        go_ret
        have B2 := hb1.trans (hb2.mono hb1.size)
        have B3 := B2.trans (hb3.mono B2.size)
        have B4 := B3.trans (hb4.mono B3.size)
        exact ⟨rfl, below_drewN' (B4.trans (hb5.mono B4.size)) _⟩
      · obtain ⟨c, rfl⟩ := one_byte (s := a1) (by omega)
        have hn0 : 0 < len0 := by omega
        have hXl := hR.1
        have CS0 := fun (g : Nat) (W : World) (ho : W.ownsRow w.heap.size 9 1 (.slice (some ⟨g, 0, none⟩) len0 len0) len0 (X.map Value.string)) => join_spec X len0 g 0 len0 c W hXl hn0 (own_cells ho).1 (own_cells ho).2 hbl
        have CI0 := fun (g : Nat) (W : World) (B : Nat) (ho : W.ownsRow B 9 1 (.slice (some ⟨g, 0, none⟩) len0 len0) len0 (X.map Value.string)) => join_impl X len0 g 0 len0 c W hXl hn0 (own_cells ho).1 (own_cells ho).2 (Nat.le_refl _) hbl
        clear hXl hno
        by_cases hg : JGood X c
        · have CS := fun g W ho => (CS0 g W ho).mono fun e w' ⟨he, hw⟩ => (⟨jp_yes he hg, hw⟩ : e = Ending.returned (.tuple #[.string (strOf (jn X c)), .bool true]) ∧ Below W.heap.size W w')
          have CI := fun g W B ho => (CI0 g W B ho).mono fun e w' ⟨he, hw⟩ => (⟨jp_yes he hg, hw⟩ : e = Ending.returned (.tuple #[.string (strOf (jn X c)), .bool true]) ∧ Below W.heap.size W w')
          clear CS0 CI0 hg
          go_wp2_with fail
          refine (toStringS_any X len0 a0 cap0 w hR (by omega)).mono ?_
          rintro e W1 ⟨g1, rfl, ho1, hb1⟩
          go_wp2_with fail
          refine (CS g1 W1 ho1).mono ?_
          rintro e W2 ⟨rfl, hb2⟩
          go_wp2_with fail
          refine (toStringS_any X len0 a0 cap0 W2 ((hR.below hb1).below hb2) (by omega)).mono ?_
          rintro e W3 ⟨g2, rfl, ho2, hb3⟩
          go_wp2_with fail
          refine (CI g2 W3 W2.heap.size ho2).mono ?_
          rintro e W4 ⟨rfl, hb4⟩
          go_wp2_with fail
          refine (toStringS_any X len0 a0 cap0 W4 ((((hR.below hb1).below hb2).below hb3).below hb4) (by omega)).mono ?_
          rintro e W5 ⟨g3, rfl, ho3, hb5⟩
          go_wp2_with fail
          refine (eqStringS_true X len0 _ _ _ _ _ (((rd_of_own ho2).below hb4).below hb5) (rd_of_own ho3) (by omega)).mono ?_
          rintro e W6 ⟨rfl, m, rfl⟩
          go_wp2_with fail
          go_ret
          have B2 := hb1.trans (hb2.mono hb1.size)
          have B3 := B2.trans (hb3.mono B2.size)
          have B4 := B3.trans (hb4.mono B3.size)
          exact ⟨rfl, below_drewN' (B4.trans (hb5.mono B4.size)) _⟩
        · have CS := fun g W ho => (CS0 g W ho).mono fun e w' ⟨he, hw⟩ => (⟨jp_no he hg, hw⟩ : e = Ending.returned (.tuple #[.string ByteArray.empty, .bool false]) ∧ Below W.heap.size W w')
          have CI := fun g W B ho => (CI0 g W B ho).mono fun e w' ⟨he, hw⟩ => (⟨jp_no he hg, hw⟩ : e = Ending.returned (.tuple #[.string ByteArray.empty, .bool false]) ∧ Below W.heap.size W w')
          clear CS0 CI0 hg
          go_wp2_with fail
          refine (toStringS_any X len0 a0 cap0 w hR (by omega)).mono ?_
          rintro e W1 ⟨g1, rfl, ho1, hb1⟩
          go_wp2_with fail
          refine (CS g1 W1 ho1).mono ?_
          rintro e W2 ⟨rfl, hb2⟩
          go_wp2_with fail
          refine (toStringS_any X len0 a0 cap0 W2 ((hR.below hb1).below hb2) (by omega)).mono ?_
          rintro e W3 ⟨g2, rfl, ho2, hb3⟩
          go_wp2_with fail
          refine (CI g2 W3 W2.heap.size ho2).mono ?_
          rintro e W4 ⟨rfl, hb4⟩
          go_wp2_with fail
          refine (toStringS_any X len0 a0 cap0 W4 ((((hR.below hb1).below hb2).below hb3).below hb4) (by omega)).mono ?_
          rintro e W5 ⟨g3, rfl, ho3, hb5⟩
          go_wp2_with fail
          refine (eqStringS_true X len0 _ _ _ _ _ (((rd_of_own ho2).below hb4).below hb5) (rd_of_own ho3) (by omega)).mono ?_
          rintro e W6 ⟨rfl, m, rfl⟩
          go_wp2_with fail
          go_ret
          have B2 := hb1.trans (hb2.mono hb1.size)
          have B3 := B2.trans (hb3.mono B2.size)
          have B4 := B3.trans (hb4.mono B3.size)
          exact ⟨rfl, below_drewN' (B4.trans (hb5.mono B4.size)) _⟩

/-! ### THE ROW's STEP: WRITTEN OUT: LEAVE IT -/
set_option maxRecDepth 100000 in
theorem lifted (os : Os) (started : os.Started) (H : Type) (enc : TypeId × Value → H) :
    ReturnsInHanded {} Try.checked os 5 .any (Rows.fnExactJoinStringsSpec.pre6 enc Try.prog Try.f5 Rows.fnExactJoinStringsRow.domain false) (Rows.fnExactJoinStringsSpec.post enc Try.prog Try.f5 false true false false) := by
  refine returnsInHanded_of_change (C := Try.checked) own started (by kernel_rfl) Try.func5
    (ChangeSpec.witness6 (enc := enc) (C := Try.checked) false ⟨#[], #[.slice none 0 0, .string ByteArray.empty], []⟩ 8 (by kernel_rfl) (by kernel_rfl) (by kernel_rfl) (by kernel_rfl)) ?_
  intro W base args ds gs before hval0 hW hcnd _
  have hval : ∀ (j : Nat) t v, Try.f5.params[j]? = some t → args[j]? = some v → Value.okWide Try.prog W .any base t v := hval0
  have hW' := hW
  obtain ⟨p, q, hA0, hV, rfl, hfz, hnd⟩ := hW
  have hA : DataW.TrodAll enc Try.prog W 0 (fun _ => true) true Try.f5.params.toList args.toList ds p := hA0
  rw [Try.params5] at hA hval
  obtain ⟨v0, vs0, d0, ds0, p0, q0, hargs, rfl, rfl, h0, r0⟩ := trodAll_cons hA
  obtain ⟨v1, vs1, d1, ds1, p1, q1, rfl, rfl, rfl, h1, r1⟩ := trodAll_cons r0
  obtain ⟨rfl, rfl, rfl⟩ := trodAll_nil r1
  obtain rfl : args = #[v0, v1] := by cases args; simp_all
  obtain ⟨rfl, rfl⟩ := trodVars_none hV
  obtain ⟨a0, len0, cap0, rfl⟩ := okWide_slice Try.underlying26 (hval 0 26 v0 rfl rfl)
  have k0 := h0
  have lt0 : ∀ x ∈ p0, x.block < W.heap.size := by obtain ⟨m, hm⟩ := k0; exact DataW.trod_lt m _ _ _ hm
  obtain ⟨z0, w0⟩ : ∃ zs, IsStrs W a0 len0 cap0 zs := by
    obtain ⟨fuel, hf⟩ := h0
    rcases open_strings Try.underlying26 Try.underlying9 (by kernel_rfl) hf with ⟨hcs, _⟩ | ⟨x, l, c, zs, hcs, _, hl, hm, hz, _, hcell, hwz⟩
    · simp [Value.cells] at hcs
      obtain ⟨rfl, rfl, rfl⟩ := hcs
      exact ⟨[], .inl ⟨rfl, rfl, rfl, rfl⟩⟩
    · simp [Value.cells] at hcs
      obtain ⟨rfl, rfl, rfl⟩ := hcs
      exact ⟨zs, .inr ⟨_, rfl, hl, hm, by simpa using hz, hcell, hwz⟩⟩
  obtain ⟨a1, rfl, rfl, rfl, w1⟩ := open_string Try.underlying9 (hval 1 9 v1 rfl rfl) h1
  clear hA0 hval0
  refine (walk a0 len0 cap0 z0 a1 W w0 w1).mono fun e W' ⟨he, bel⟩ => ?_
  subst he
  exact ⟨_, rfl, _, _, _, [], _, [], hW', trodAll_mk1 (shut_bool Try.underlying4 _), (trodAll_cons_mk (Below.trod laidOut (by kernel_rfl) (of_decide_eq_true (by kernel_rfl)) k0 bel lt0) (trodAll_cons_mk (shut_string Try.underlying9 w1) trodAll_mk0)), rfl, bel.frame _, fun h => by cases h⟩

theorem over : Rows.fnExactJoinStringsRow.holds Try.pinned (OpenSpec.ofChange Rows.fnExactJoinStringsSpec) :=
  OpenClaim.holds_of_wide 5 Try.f5 rfl rfl rfl rfl rfl rfl rfl ⟨rfl, rfl, rfl, rfl, rfl⟩ rfl rfl rfl rfl rfl (by kernel_rfl) Try.func5 (by kernel_rfl)
    (of_decide_eq_true (by kernel_rfl)) (by unfold Func.isWrapper; first | (rw [if_pos (by decide +kernel)]; kernel_rfl) | (rw [if_neg (by decide +kernel)]; exact ⟨rfl, rfl⟩))
    (fun os started H enc _ => lifted os started H enc)

/-- ████ THE STATEMENT ████ -/
theorem proved : Rows.FnExactJoinStringsSaid := over
#print axioms proved
end Go.Proofs.Ytacpacllpjddlaa.fnExactJoinStrings
