/- FnSplitJoin: at every slice of bytes the law returns true: SplitString and JoinStrings are inverse, and LessString is a strict order. No condition. -/
import Derived.Test.YtacpacllpjddlaaRows
import Derived.WalkKit
import Derived.ProofKit
import Derived.OpenShut
import Derived.ShutString
import Derived.Test.YtacpacllpjddlaaLawArg
import Derived.Test.YtacpacllpjddlaaDrawTwo
import Derived.Test.YtacpacllpjddlaaDrawList
import Derived.Test.YtacpacllpjddlaaJoinBoth
import Derived.Test.YtacpacllpjddlaaSplitCalls
import Derived.ChangeOld
import Derived.Below
namespace Go.Proofs.Ytacpacllpjddlaa.fnSplitJoin
open Go.ChangeShapes Go.WideShapes Go.ChangeAt Go.RowKit
open Go.ChangeMaps (open_string shut_string)
set_option linter.unusedVariables false

theorem own : ownKnob Try.prog.godebug = none := by kernel_rfl
theorem laidOut : laidOutB Try.prog = true := by kernel_rfl

/-- WHAT THE WALK IS TOLD OF A SLICE OF INTEGERS THAT CAME IN: it is nil; or it leads to a row of 'cap' cells, the numbers 'zs' (the first 'len' are its elements, the rest its spare room), each fitting its kind. -/
def IsRow (k : IntKind) (w : World) (a : Option Addr) (len cap : Nat) (zs : List Int) : Prop :=
  (a = none ∧ len = 0 ∧ cap = 0 ∧ zs = []) ∨
  ∃ x, a = some x ∧ len ≤ cap ∧ cap ≤ maxLen ∧ zs.length = cap ∧ (∀ i, i < zs.length → w.cell? (x.add i) = some (.int k (zs.getD i 0))) ∧ ∀ n ∈ zs, (Lit.int k n).wf = true

/-! ### STEP 1: THE WALK: the Go text returns true, AND WRITES NOTHING THAT WAS THERE: 'Below w.heap.size w w'' (Derived/Below.lean: '.refl', '.alloc', '.drew', '.setCell' at a new block, '.trans'). Open each 'IsRow' by 'rcases' AHEAD of 'go_enter'; part every test ahead of the walk. -/
theorem walk (a0 : Option Addr) (len0 cap0 : Nat) (z0 : List Int) (w : World) (w0 : IsRow .u8 w a0 len0 cap0 z0) :
    Calls Try.prog 3 #[.slice a0 len0 cap0] w fun e w' => e = .returned (.bool true) ∧ Below w.heap.size w w' := by
  have hR : RdB w w.heap.size a0 len0 := by
    rcases w0 with ⟨rfl, rfl, rfl, rfl⟩ | ⟨⟨b, o, spot⟩, rfl, hl, hm, hz, hc, hwf⟩
    · intro h; omega
    · refine rdb_of (fun k hk => hc k (by omega)) (fun k hk => ?_)
      have e2 : z0.getD k 0 = z0[k]'(by omega) := by simp [List.getD, show k < z0.length by omega]
      have h2 := hwf (z0.getD k 0) (by rw [e2]; exact List.getElem_mem _)
      exact (by simpa [Lit.wf] using h2)
  clear w0
  have hB := vBig_any a0 len0 cap0 w
  by_cases hbig : (65536 : Int) < (len0 : Int)
  · have e1 : decide ((65536 : Int) < (len0 : Int)) = true := by simp; omega
    simp only [e1] at hB
    clear hR
    go_enter Try.func3, Try.ntmps3
    go_wp2_with (go_at_call 8; refine hB.mono ?_; rintro e w' ⟨rfl, rfl⟩)
    go_ret
    exact ⟨rfl, Below.refl _ _⟩
  · have e1 : decide ((65536 : Int) < (len0 : Int)) = false := by simp; omega
    simp only [e1] at hB
    have hn : len0 ≤ 65536 := by omega
    have HR := fun w1 (hb : Below w.heap.size w w1) => hR.on hb
    go_enter Try.func3, Try.ntmps3
    go_wp2_with (go_at_call 8; refine hB.mono ?_; rintro e w' ⟨rfl, rfl⟩)
    refine (drawSplit_any a0 len0 cap0 w hR hn).mono ?_
    rintro e w1 ⟨⟨s, sep, rfl, hs, hsep⟩, hb1⟩
    clear hB hR
    by_cases h1 : sep.size = 1
    · obtain ⟨c, rfl⟩ := one_byte h1
      have cs := splitImpl_yes s c (by omega) w1
      go_wp2_with fail
      refine cs.mono ?_
      rintro e w2 ⟨g, cap, rfl, hown, hb⟩
      have cb := join_back s c hs g cap _ w2 hown
      have hb2 := hb1.trans (hb.mono hb1.size)
      clear hb cs hown h1
      go_wp2_with fail
      refine (drawJoin_any a0 len0 cap0 _ (HR _ hb2) hn).mono ?_
      rintro e w3 ⟨⟨v, t, X, rfl, ht, hX5, hX, hown3⟩, hb23⟩
      have hb3 := hb2.trans (hb23.mono hb2.size)
      have hbl := blen_short X hX
      obtain ⟨js, jb, ci, cs⟩ := join_joint X t v _ w3 hown3 (by omega)
      clear hX hown3
      go_wp2_with fail
      refine (ci w3 (Below.refl _ _)).mono ?_
      rintro e w4 ⟨rfl, hb34⟩
      have hb4 := hb3.trans (hb34.mono hb3.size)
      go_wp2_with fail
      refine (cs w4 hb34).mono ?_
      rintro e w5 ⟨rfl, hb45⟩
      have hb5 := hb4.trans (hb45.mono hb4.size)
      clear ci cs
      go_wp2_with fail
      refine (drawLess_any a0 len0 cap0 _ (HR _ hb5) hn).mono ?_
      rintro e w6 ⟨⟨x, y, rfl, hx, hy⟩, hb56⟩
      have hb6 := hb5.trans (hb56.mono hb5.size)
      have l1 := fun W => less_impl x y W
      have l2 := fun W => less_spec x y W
      have l3 := fun W => less_impl y x W
      have HA := less_asymm x.toList y.toList
      cases hxy : Op.bytesLess x.toList y.toList
      all_goals simp only [hxy] at l1 l2
      · clear HA
        go_wp2_with (first | (go_at_call 16; refine (l2 _).mono ?_; rintro e w' ⟨rfl, rfl⟩) | (go_at_call 15; first | (refine (l1 _).mono ?_; rintro e w' ⟨rfl, rfl⟩) | (refine (l3 _).mono ?_; rintro e w' ⟨rfl, rfl⟩)))
        refine (cb w6 (((hb23.trans (hb34.mono hb23.size)).trans (hb45.mono (Nat.le_trans hb23.size hb34.size))).trans (hb56.mono (Nat.le_trans (Nat.le_trans hb23.size hb34.size) hb45.size)))).mono ?_
        rintro e w7 ⟨rfl, hb⟩
        clear cb
        go_wp2_with fail
        go_ret
        exact ⟨rfl, hb6.trans (hb.mono hb6.size)⟩
      · have hyx := HA hxy
        simp only [hyx] at l3
        clear HA
        go_wp2_with (first | (go_at_call 16; refine (l2 _).mono ?_; rintro e w' ⟨rfl, rfl⟩) | (go_at_call 15; first | (refine (l1 _).mono ?_; rintro e w' ⟨rfl, rfl⟩) | (refine (l3 _).mono ?_; rintro e w' ⟨rfl, rfl⟩)))
        refine (cb w6 (((hb23.trans (hb34.mono hb23.size)).trans (hb45.mono (Nat.le_trans hb23.size hb34.size))).trans (hb56.mono (Nat.le_trans (Nat.le_trans hb23.size hb34.size) hb45.size)))).mono ?_
        rintro e w7 ⟨rfl, hb⟩
        clear cb
        go_wp2_with fail
        go_ret
        exact ⟨rfl, hb6.trans (hb.mono hb6.size)⟩
    · have cs := splitImpl_no s sep w1 (.inr h1)
      have e4 : ((sep.size : Int) == 1) = false := by rw [beq_eq_false_iff_ne]; omega
      have e5 : ((sep.size : Int) != 1) = true := by rw [bne_iff_ne]; omega
      go_wp2_with fail
      refine cs.mono ?_
      rintro e w2 ⟨rfl, rfl⟩
      have hb2 := hb1
      clear cs h1
      go_wp2_with fail
      refine (drawJoin_any a0 len0 cap0 _ (HR _ hb2) hn).mono ?_
      rintro e w3 ⟨⟨v, t, X, rfl, ht, hX5, hX, hown3⟩, hb23⟩
      have hb3 := hb2.trans (hb23.mono hb2.size)
      have hbl := blen_short X hX
      obtain ⟨js, jb, ci, cs⟩ := join_joint X t v _ w3 hown3 (by omega)
      clear hX hown3
      go_wp2_with fail
      refine (ci w3 (Below.refl _ _)).mono ?_
      rintro e w4 ⟨rfl, hb34⟩
      have hb4 := hb3.trans (hb34.mono hb3.size)
      go_wp2_with fail
      refine (cs w4 hb34).mono ?_
      rintro e w5 ⟨rfl, hb45⟩
      have hb5 := hb4.trans (hb45.mono hb4.size)
      clear ci cs
      go_wp2_with fail
      refine (drawLess_any a0 len0 cap0 _ (HR _ hb5) hn).mono ?_
      rintro e w6 ⟨⟨x, y, rfl, hx, hy⟩, hb56⟩
      have hb6 := hb5.trans (hb56.mono hb5.size)
      have l1 := fun W => less_impl x y W
      have l2 := fun W => less_spec x y W
      have l3 := fun W => less_impl y x W
      have HA := less_asymm x.toList y.toList
      cases hxy : Op.bytesLess x.toList y.toList
      all_goals simp only [hxy] at l1 l2
      · clear HA
        go_wp2_with (first | (go_at_call 16; refine (l2 _).mono ?_; rintro e w' ⟨rfl, rfl⟩) | (go_at_call 15; first | (refine (l1 _).mono ?_; rintro e w' ⟨rfl, rfl⟩) | (refine (l3 _).mono ?_; rintro e w' ⟨rfl, rfl⟩)))
        go_ret
        exact ⟨rfl, hb6⟩
      · have hyx := HA hxy
        simp only [hyx] at l3
        clear HA
        go_wp2_with (first | (go_at_call 16; refine (l2 _).mono ?_; rintro e w' ⟨rfl, rfl⟩) | (go_at_call 15; first | (refine (l1 _).mono ?_; rintro e w' ⟨rfl, rfl⟩) | (refine (l3 _).mono ?_; rintro e w' ⟨rfl, rfl⟩)))
        go_ret
        exact ⟨rfl, hb6⟩

/-! ### THE ROW's STEP: WRITTEN OUT: LEAVE IT -/
set_option maxRecDepth 100000 in
theorem lifted (os : Os) (started : os.Started) (H : Type) (enc : TypeId × Value → H) :
    ReturnsInHanded {} Try.checked os 3 .any (Rows.fnSplitJoinSpec.pre6 enc Try.prog Try.f3 Rows.fnSplitJoinRow.domain false) (Rows.fnSplitJoinSpec.post enc Try.prog Try.f3 false true false false) := by
  refine returnsInHanded_of_change (C := Try.checked) own started (by kernel_rfl) Try.func3
    (ChangeSpec.witness6 (enc := enc) (C := Try.checked) false ⟨#[], #[.slice none 0 0], []⟩ 8 (by kernel_rfl) (by kernel_rfl) (by kernel_rfl) (by kernel_rfl)) ?_
  intro W base args ds gs before hval0 hW hcnd _
  have hval : ∀ (j : Nat) t v, Try.f3.params[j]? = some t → args[j]? = some v → Value.okWide Try.prog W .any base t v := hval0
  have hW' := hW
  obtain ⟨p, q, hA0, hV, rfl, hfz, hnd⟩ := hW
  have hA : DataW.TrodAll enc Try.prog W 0 (fun _ => true) true Try.f3.params.toList args.toList ds p := hA0
  rw [Try.params3] at hA hval
  obtain ⟨v0, vs0, d0, ds0, p0, q0, hargs, rfl, rfl, h0, r0⟩ := trodAll_cons hA
  obtain ⟨rfl, rfl, rfl⟩ := trodAll_nil r0
  obtain rfl : args = #[v0] := by cases args; simp_all
  obtain ⟨rfl, rfl⟩ := trodVars_none hV
  obtain ⟨a0, len0, cap0, rfl⟩ := okWide_slice Try.underlying22 (hval 0 22 v0 rfl rfl)
  have k0 := h0
  have lt0 : ∀ x ∈ p0, x.block < W.heap.size := by obtain ⟨m, hm⟩ := k0; exact DataW.trod_lt m _ _ _ hm
  obtain ⟨z0, w0⟩ : ∃ zs, IsRow .u8 W a0 len0 cap0 zs := by
    obtain ⟨fuel, hf⟩ := h0
    rcases open_ints Try.underlying22 Try.underlying5 (by kernel_rfl) hf with ⟨hcs, _⟩ | ⟨x, l, c, zs, hcs, _, hl, hm, hz, _, hcell, hwz⟩
    · simp [Value.cells] at hcs
      obtain ⟨rfl, rfl, rfl⟩ := hcs
      exact ⟨[], .inl ⟨rfl, rfl, rfl, rfl⟩⟩
    · simp [Value.cells] at hcs
      obtain ⟨rfl, rfl, rfl⟩ := hcs
      exact ⟨zs, .inr ⟨_, rfl, hl, hm, by simpa using hz, hcell, hwz⟩⟩
  clear hA0 hval0
  refine (walk a0 len0 cap0 z0 W w0).mono fun e W' ⟨he, bel⟩ => ?_
  subst he
  exact ⟨_, rfl, _, _, _, [], _, [], hW', trodAll_mk1 (shut_bool Try.underlying4 _), (trodAll_cons_mk (Below.trod laidOut (by kernel_rfl) (of_decide_eq_true (by kernel_rfl)) k0 bel lt0) trodAll_mk0), rfl, bel.frame _, fun h => by cases h⟩

theorem over : Rows.fnSplitJoinRow.holds Try.pinned (OpenSpec.ofChange Rows.fnSplitJoinSpec) :=
  OpenClaim.holds_of_wide 3 Try.f3 rfl rfl rfl rfl rfl rfl rfl ⟨rfl, rfl, rfl, rfl, rfl⟩ rfl rfl rfl rfl rfl (by kernel_rfl) Try.func3 (by kernel_rfl)
    (of_decide_eq_true (by kernel_rfl)) (by unfold Func.isWrapper; first | (rw [if_pos (by decide +kernel)]; kernel_rfl) | (rw [if_neg (by decide +kernel)]; exact ⟨rfl, rfl⟩))
    (fun os started H enc _ => lifted os started H enc)

/-- ████ THE STATEMENT ████ -/
theorem proved : Rows.FnSplitJoinSaid := over
#print axioms proved
end Go.Proofs.Ytacpacllpjddlaa.fnSplitJoin
