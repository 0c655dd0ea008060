/- FnTinctures: at every slice of bytes the law returns true: tinctures are recovered from their words, clashing is mutual, and those against a tincture do not clash with it. The card ties the table of words to the program's text. No condition. -/
import Derived.Test.YtflfdngcgebmmaaDoorRows
import Derived.Test.YtflfdngcgebmmaaDoorCards
import Derived.Test.YtflfdngcgebmmaaDoorTie
import Derived.WalkKit
import Derived.ProofKit
import Derived.OpenShut
import Derived.ShutString
import Derived.Test.YtflfdngcgebmmaaDoorLawIn
import Derived.Test.YtflfdngcgebmmaaDoorDrawClash
import Derived.Test.YtflfdngcgebmmaaDoorPWords
import Derived.LaidMore
import Derived.Stop.Joined
import Derived.SevenTiedAt
import Derived.OpenVars
import Derived.ChangeVars
import Derived.ChangeOld
import Derived.Below
namespace Go.Proofs.YtflfdngcgebmmaaDoor.fnTinctures
open Go.ChangeShapes Go.WideShapes Go.ChangeAt Go.RowKit
open Go.ChangeMaps (open_string shut_string)
set_option linter.unusedVariables false

def laidL : List (String × DataW Unit) := [("loop.example/g00884/impl.tinctureWords", Rows.laid_loop_example_g00884_impl_tinctureWords)]

/-- The door's own heap meets the condition. -/
theorem door_met (os : Os) (args : Array Value) : laidMetH Tryd.prog laidL ((World.doorLaid Tryd.prog 400 os).forCall (fun _ _ => 0) ⟨#[], args, []⟩).memory :=
  laidMetH_of_parts3 (fuel := 8) (laidMet_of_run' 8 (by kernel_rfl) (by kernel_rfl)) (by kernel_rfl) (by kernel_rfl)

theorem own : ownKnob Tryd.prog.godebug = none := by kernel_rfl
theorem laidOut : laidOutB Tryd.prog = true := by kernel_rfl

/-- WHAT THE WALK IS TOLD OF A SLICE OF INTEGERS THAT CAME IN: it is nil; or it leads to a row of 'cap' cells, the numbers 'zs' (the first 'len' are its elements, the rest its spare room), each fitting its kind. -/
def IsRow (k : IntKind) (w : World) (a : Option Addr) (len cap : Nat) (zs : List Int) : Prop :=
  (a = none ∧ len = 0 ∧ cap = 0 ∧ zs = []) ∨
  ∃ x, a = some x ∧ len ≤ cap ∧ cap ≤ maxLen ∧ zs.length = cap ∧ (∀ i, i < zs.length → w.cell? (x.add i) = some (.int k (zs.getD i 0))) ∧ ∀ n ∈ zs, (Lit.int k n).wf = true

/-! ### STEP 1: THE WALK: the Go text returns true, AND WRITES NOTHING THAT WAS THERE: 'Below w.heap.size w w'' (Derived/Below.lean: '.refl', '.alloc', '.drew', '.setCell' at a new block, '.trans'). Open each 'IsRow' by 'rcases' AHEAD of 'go_enter'; part every test ahead of the walk. -/
theorem walk (a0 : Option Addr) (len0 cap0 : Nat) (z0 : List Int) (w : World) (w0 : IsRow .u8 w a0 len0 cap0 z0) (hL : laidMetH Tryd.prog laidL w) :
    Calls Tryd.prog 5 #[.slice a0 len0 cap0] w fun e w' => e = .returned (.bool true) ∧ Below w.heap.size w w' := by
  have hT : WordsLie w := by
    rw [MakeChecks.laidMetH_plain _ _ _ (by kernel_rfl)] at hL
    exact words_of hL
  have hR : RdB w w.heap.size a0 len0 := by
    rcases w0 with ⟨rfl, rfl, rfl, rfl⟩ | ⟨⟨b, o, spot⟩, rfl, hl, hm, hz, hc, hwf⟩
    · intro h; omega
    · refine rdb_of (fun k hk => hc k (by omega)) (fun k hk => ?_)
      have e2 : z0.getD k 0 = z0[k]'(by omega) := by simp [List.getD, show k < z0.length by omega]
      have h2 := hwf (z0.getD k 0) (by rw [e2]; exact List.getElem_mem _)
      exact (by simpa [Lit.wf] using h2)
  clear w0 hL
  have hB := vBig_any a0 len0 cap0 w
  by_cases hbig : (65536 : Int) < (len0 : Int)
  · have e1 : decide ((65536 : Int) < (len0 : Int)) = true := by simp; omega
    simp only [e1] at hB
    clear hR hT
    go_enter Tryd.func5, Tryd.ntmps5
    go_wp2_with (go_at_call 10; refine hB.mono ?_; rintro e w' ⟨rfl, rfl⟩)
    go_ret
    exact ⟨rfl, Below.refl _ _⟩
  · have e1 : decide ((65536 : Int) < (len0 : Int)) = false := by simp; omega
    simp only [e1] at hB
    have hn : len0 ≤ 65536 := by omega
    have cd := drawClash_any a0 len0 cap0 w hR hn
    have HT := Lib.hid (fun W (h : Below w.heap.size w W) => hT.below h)
    clear hR hT
    go_enter Tryd.func5, Tryd.ntmps5
    go_wp2_with (go_at_call 10; refine hB.mono ?_; rintro e w' ⟨rfl, rfl⟩)
    refine cd.mono ?_
    rintro e w1 ⟨⟨x, y, rfl⟩, hb1⟩
    clear hB cd
    obtain ⟨s, one, p, two, c, ok, X, N, has, n, hN, C1, C2, C3, C4, C5, C6, C7, C8, C9, hF, hG⟩ : ∃ (s : ByteArray) (one : Bool) (p : Int) (two c ok : Bool) (X : List Int) (N : Nat) (has : Bool) (n : Int), N ≤ 9 ∧
        (∀ W, Below w.heap.size w W → Calls Tryd.prog 7 #[.int .i64 x] W fun e w' => e = .returned (.tuple #[.string s, .bool one]) ∧ W = w') ∧
        (∀ W, Below w.heap.size w W → Calls Tryd.prog 9 #[.string s] W fun e w' => e = .returned (.tuple #[.int .i64 p, .bool two]) ∧ Below W.heap.size W w') ∧
        (∀ W, Calls Tryd.prog 12 #[.int .i64 x, .int .i64 y] W fun e w' => e = .returned (.tuple #[.bool c, .bool ok]) ∧ W = w') ∧
        (∀ W, Calls Tryd.prog 12 #[.int .i64 y, .int .i64 x] W fun e w' => e = .returned (.tuple #[.bool c, .bool ok]) ∧ W = w') ∧
        (∀ W, Calls Tryd.prog 13 #[.int .i64 x, .int .i64 y] W fun e w' => e = .returned (.tuple #[.bool c, .bool ok]) ∧ W = w') ∧
        (∀ W, Calls Tryd.prog 14 #[.int .i64 x] W fun e w' => e = .returned (.bool one) ∧ W = w') ∧
        (∀ W, Calls Tryd.prog 15 #[.int .i64 x] W fun e w' => ∃ a cap, e = .returned (.tuple #[.slice a N cap, .bool one]) ∧ OwnI w' W.heap.size a N cap X ∧ Below W.heap.size W w') ∧
        (∀ W, Calls Tryd.prog 16 #[.int .i64 x, .int .i64 y] W fun e w' => e = .returned (.tuple #[.int .i64 n, .bool ok]) ∧ Below W.heap.size W w') ∧
        (∀ W a cap, RdI W a N X → Calls Tryd.prog 17 #[.slice a N cap, .int .i64 y] W fun e w' => e = .returned (.bool has) ∧ W = w') ∧
        (one = false ∨ (one = true ∧ two = true ∧ p = x)) ∧ (ok = false ∨ (ok = true ∧ has = !c ∧ (n == 0) = c)) := by
      by_cases hx : 1 ≤ x ∧ x ≤ 9
      · obtain ⟨j, rfl⟩ : ∃ j : Nat, x = (j : Int) + 1 := ⟨(x - 1).toNat, by omega⟩
        have hj : j < 9 := by omega
        have hp : IsParse 9 (wordN j) (j + 1) := .inr ⟨by omega, by omega, rfl⟩
        have hps := fun W (h : Below w.heap.size w W) => parse_impl (wordN j) (j + 1) (by have := wordN_size hj; omega) hp W (HT.out W h)
        have hl : (agL ((j : Int) + 1) 9).length ≤ 9 := agL_len _ _
        by_cases hy : 1 ≤ y ∧ y ≤ 9
        · have ea : clashA ((j : Int) + 1) y = (clashB ((j : Int) + 1) y, true) := if_pos ⟨hx.1, hx.2, hy.1, hy.2⟩
          have eb : clashA y ((j : Int) + 1) = (clashB ((j : Int) + 1) y, true) := by rw [clash_comm]; exact if_pos ⟨hy.1, hy.2, hx.1, hx.2⟩
          refine ⟨wordN j, true, (j : Int) + 1, true, clashB ((j : Int) + 1) y, true, agL ((j : Int) + 1) 9, (agL ((j : Int) + 1) 9).length, (agL ((j : Int) + 1) 9).contains y, ctr ((j : Int) + 1) y, hl, fun W h => word_impl j W hj (HT.out W h),
            fun W h => (hps W h).mono fun e w' ⟨h1, h2⟩ => ⟨h1, h2⟩, fun W => ?_, fun W => ?_, fun W => ?_, fun W => isT_yes _ W hx.1 hx.2, fun W => against_impl _ W hx.1 hx.2, fun W => contrast_impl _ _ W hx.1 hx.2 hy.1 hy.2, fun W a cap h => vHas_any _ y _ a cap W h (by omega), .inr ⟨rfl, rfl, rfl⟩, .inr ⟨rfl, agL_has _ _ hy.1 hy.2, ctr_zero _ _⟩⟩
          · have := clash_impl ((j : Int) + 1) y W; rw [ea] at this; exact this
          · have := clash_impl y ((j : Int) + 1) W; rw [eb] at this; exact this
          · have := clash_spec ((j : Int) + 1) y W; rw [ea] at this; exact this
        · have ea : clashA ((j : Int) + 1) y = (false, false) := if_neg (by omega)
          have eb : clashA y ((j : Int) + 1) = (false, false) := if_neg (by omega)
          refine ⟨wordN j, true, (j : Int) + 1, true, false, false, agL ((j : Int) + 1) 9, (agL ((j : Int) + 1) 9).length, (agL ((j : Int) + 1) 9).contains y, 0, hl, fun W h => word_impl j W hj (HT.out W h),
            fun W h => (hps W h).mono fun e w' ⟨h1, h2⟩ => ⟨h1, h2⟩, fun W => ?_, fun W => ?_, fun W => ?_, fun W => isT_yes _ W hx.1 hx.2, fun W => against_impl _ W hx.1 hx.2, fun W => contrast_impl_no _ _ W (by omega), fun W a cap h => vHas_any _ y _ a cap W h (by omega), .inr ⟨rfl, rfl, rfl⟩, .inl rfl⟩
          · have := clash_impl ((j : Int) + 1) y W; rw [ea] at this; exact this
          · have := clash_impl y ((j : Int) + 1) W; rw [eb] at this; exact this
          · have := clash_spec ((j : Int) + 1) y W; rw [ea] at this; exact this
      · have hp : IsParse 9 ByteArray.empty 0 := .inl ⟨rfl, fun i hi e => wordN_ne hi (by rw [e]; rfl)⟩
        have hps := fun W (h : Below w.heap.size w W) => parse_impl ByteArray.empty 0 (by decide) hp W (HT.out W h)
        have ea : clashA x y = (false, false) := if_neg (by omega)
        have eb : clashA y x = (false, false) := if_neg (by omega)
        refine ⟨ByteArray.empty, false, 0, false, false, false, [], 0, ([] : List Int).contains y, 0, by omega, fun W h => word_impl_no x W (by omega),
          fun W h => (hps W h).mono fun e w' ⟨h1, h2⟩ => ⟨h1, h2⟩, fun W => ?_, fun W => ?_, fun W => ?_, fun W => isT_no _ W (by omega), fun W => against_impl_no _ W (by omega), fun W => contrast_impl_no _ _ W (by omega), fun W a cap h => vHas_any _ y _ a cap W h (by omega), .inl rfl, .inl rfl⟩
        · have := clash_impl x y W; rw [ea] at this; exact this
        · have := clash_impl y x W; rw [eb] at this; exact this
        · have := clash_spec x y W; rw [ea] at this; exact this
    have H1 := Lib.hid C1
    have H2 := Lib.hid C2
    have H3 := Lib.hid C3
    have H4 := Lib.hid C4
    have H5 := Lib.hid C5
    have H6 := Lib.hid C6
    have H7 := Lib.hid C7
    have H8 := Lib.hid C8
    have H9 := Lib.hid C9
    clear C1 C2 C3 C4 C5 C6 C7 C8 C9
    have HG : Hid (ok = false ∨ (ok = true ∧ has = !c ∧ (n == 0) = c)) := hG
    clear hG HT
    have ex : (x != x) = false := by simp
    rcases hF with rfl | ⟨rfl, rfl, rfl⟩
    all_goals
      go_wp2_with fail
      refine (H1.out _ hb1).mono ?_
      rintro e w2 ⟨rfl, rfl⟩
      go_wp2_with fail
      refine (H2.out _ hb1).mono ?_
      rintro e w3 ⟨rfl, hb3⟩
      have B3 := hb1.trans (hb3.mono hb1.size)
      clear hb3
      rcases HG.out with rfl | ⟨rfl, rfl, hn0⟩
      · cases c
        all_goals
          go_wp2_with fail
          refine (H3.out _).mono ?_
          rintro e w4 ⟨rfl, rfl⟩
          go_wp2_with fail
          refine (H4.out _).mono ?_
          rintro e w5 ⟨rfl, rfl⟩
          go_wp2_with fail
          refine (H5.out _).mono ?_
          rintro e w6 ⟨rfl, rfl⟩
          go_wp2_with fail
          refine (H6.out _).mono ?_
          rintro e w7 ⟨rfl, rfl⟩
          go_wp2_with fail
          refine (H7.out _).mono ?_
          rintro e w8 ⟨a8, c8, rfl, ho8, hb8⟩
          have B8 := B3.trans (hb8.mono B3.size)
          clear ho8 hb8
          go_wp2_with fail
          refine (H8.out _).mono ?_
          rintro e w9 ⟨rfl, hb9⟩
          have B9 := B8.trans (hb9.mono B8.size)
          clear hb9
          go_wp2_with fail
          go_ret
          exact ⟨rfl, B9⟩
      · have e5 := hn0
        cases c
        all_goals
          simp only [Bool.not_false, Bool.not_true] at H9
          have H9b := H9
          clear H9
          go_wp2_with fail
          refine (H3.out _).mono ?_
          rintro e w4 ⟨rfl, rfl⟩
          go_wp2_with fail
          refine (H4.out _).mono ?_
          rintro e w5 ⟨rfl, rfl⟩
          go_wp2_with fail
          refine (H5.out _).mono ?_
          rintro e w6 ⟨rfl, rfl⟩
          go_wp2_with fail
          refine (H6.out _).mono ?_
          rintro e w7 ⟨rfl, rfl⟩
          go_wp2_with fail
          refine (H7.out _).mono ?_
          rintro e w8 ⟨a8, c8, rfl, ho8, hb8⟩
          have B8 := B3.trans (hb8.mono B3.size)
          clear hb8
          go_wp2_with fail
          refine (H8.out _).mono ?_
          rintro e w9 ⟨rfl, hb9⟩
          have B9 := B8.trans (hb9.mono B8.size)
          have HO := Lib.hid (ho8.rd.below hb9)
          clear hb9 ho8
          go_wp2_with fail
          refine (H9b.out _ _ _ HO.out).mono ?_
          rintro e w10 ⟨rfl, rfl⟩
          go_wp2_with fail
          go_ret
          exact ⟨rfl, B9⟩

/-! ### THE ROW's STEP: WRITTEN OUT: LEAVE IT -/
set_option maxRecDepth 100000 in
theorem lifted (os : Os) (started : os.Started) (H : Type) (enc : TypeId × Value → H) :
    ReturnsInHanded {} Tryd.checked os 5 .any (fun w args => (Rows.fnTincturesSpec.pre enc Tryd.prog Tryd.f5 Rows.fnTincturesRow.domain false w args ∧ laidMetH Tryd.prog laidL w) ∧ sizedMet enc Tryd.prog Tryd.f5 (OpenSpec.ofChange Rows.fnTincturesSpec) false w args)
      (Rows.fnTincturesSpec.post enc Tryd.prog Tryd.f5 false true false false) := by
  refine returnsInHanded_of_change_and (C := Tryd.checked) (X := fun w _ => laidMetH Tryd.prog laidL w) (fun _ _ _ hh h => h.of_heap hh) own started (by kernel_rfl) Tryd.func5
    (ChangeSpec.witness_shaped (enc := enc) (C := Tryd.checked) (os := os) (X := fun w _ => laidMetH Tryd.prog laidL w) false (World.doorLaid Tryd.prog 400 os) #[.slice none 0 0] 8 rfl (World.shaped_of_RefB (by kernel_rfl) (by kernel_rfl)) (by kernel_rfl) (by kernel_rfl) (by kernel_rfl) (door_met os _)) ?_
  intro W base args ds gs before hval0 hW _ hsz0 hL _
  have hval : ∀ (j : Nat) t v, Tryd.f5.params[j]? = some t → args[j]? = some v → Value.okWide Tryd.prog W .any base t v := hval0
  have hW' := hW
  obtain ⟨p, q, hA0, hV, rfl, hfz, hnd⟩ := hW
  have hA : DataW.TrodAll enc Tryd.prog W 0 (fun _ => true) true Tryd.f5.params.toList args.toList ds p := hA0
  rw [Tryd.params5] at hA hval
  obtain ⟨v0, vs0, d0, ds0, p0, q0, hargs, rfl, rfl, h0, r0⟩ := trodAll_cons hA
  obtain ⟨rfl, rfl, rfl⟩ := trodAll_nil r0
  obtain rfl : args = #[v0] := by cases args; simp_all
  obtain ⟨gv, tv, csv, fuelv, dv, pv, hgs, _⟩ := trodVars_one hV
  subst hgs
  obtain ⟨a0, len0, cap0, rfl⟩ := okWide_slice Tryd.underlying28 (hval 0 28 v0 rfl rfl)
  have k0 := h0
  have lt0 : ∀ x ∈ p0, x.block < W.heap.size := by obtain ⟨m, hm⟩ := k0; exact DataW.trod_lt m _ _ _ hm
  obtain ⟨z0, w0⟩ : ∃ zs, IsRow .u8 W a0 len0 cap0 zs := by
    obtain ⟨fuel, hf⟩ := h0
    rcases open_ints Tryd.underlying28 Tryd.underlying5 (by kernel_rfl) hf with ⟨hcs, _⟩ | ⟨x, l, c, zs, hcs, _, hl, hm, hz, _, hcell, hwz⟩
    · simp [Value.cells] at hcs
      obtain ⟨rfl, rfl, rfl⟩ := hcs
      exact ⟨[], .inl ⟨rfl, rfl, rfl, rfl⟩⟩
    · simp [Value.cells] at hcs
      obtain ⟨rfl, rfl, rfl⟩ := hcs
      exact ⟨zs, .inr ⟨_, rfl, hl, hm, by simpa using hz, hcell, hwz⟩⟩
  clear hA0 hval0
  refine (walk a0 len0 cap0 z0 W w0 hL).mono fun e W' ⟨he, bel⟩ => ?_
  subst he
  exact ⟨_, rfl, _, _, _, [], _, q, hW', trodAll_mk1 (shut_bool Tryd.underlying4 _), (trodAll_cons_mk (Below.trod laidOut (by kernel_rfl) (of_decide_eq_true (by kernel_rfl)) k0 bel lt0) trodAll_mk0), Below.trodVars (by kernel_rfl) bel (by kernel_rfl) hV, bel.frame _, fun h => by cases h⟩

theorem over : Rows.fnTincturesRow.holds Tryd.pinned (OpenSpec.ofChange Rows.fnTincturesSpec) :=
  OpenClaim.holds_of_wide 5 Tryd.f5 rfl rfl rfl rfl rfl rfl rfl ⟨rfl, rfl, rfl, rfl, rfl⟩ rfl rfl rfl rfl rfl (by kernel_rfl) Tryd.func5 (by kernel_rfl)
    (of_decide_eq_true (by kernel_rfl)) (by unfold Func.isWrapper; first | (rw [if_pos (by decide +kernel)]; kernel_rfl) | (rw [if_neg (by decide +kernel)]; exact ⟨rfl, rfl⟩))
    (fun os started H enc _ => lifted os started H enc)

/-- The row's statement. -/
theorem proved : Rows.FnTincturesSaid :=
  over

/-- THE TIED CARD: the listed variables are those that the program's own text lays. -/
theorem card : Rows.FnTincturesCardSaid :=
  Claim7.holds_tied_plain_at .later [] [.data] true (true, "def1b9dc1cae3dde0a3e64ff59d7a85c5aafaa7a28ef1c853f0a583f4893313c") false
    proved (fun _ h => by cases h) (by kernel_rfl) (fun _ h => by cases h) fnTinctures_row_tie rfl ⟨rfl, rfl⟩ (by kernel_rfl) rfl
    (fun f fn hf hfn => by
      obtain rfl : f = 5 := Option.some.inj ((show Tryd.prog.funcNamed "loop.example/g00884/laws.FnTinctures" = some 5 by kernel_rfl).symm.trans hf) |>.symm
      obtain rfl : fn = Tryd.f5 := (Option.some.inj (Tryd.func5.symm.trans hfn)).symm
      exact ⟨by kernel_rfl, fun j t ht => by
        rw [Tryd.params5] at ht
        have hm : t ∈ [28] := by
          have := Array.mem_of_getElem? ht
          simpa using this
        have hall : ([28].all fun u => !Tryd.prog.wantsStandIn u) = true := by kernel_rfl
        exact (show Tryd.prog.wantsStandIn t = false by simpa using List.all_eq_true.1 hall t hm)⟩)
    (by kernel_rfl)
#print axioms card
end Go.Proofs.YtflfdngcgebmmaaDoor.fnTinctures
