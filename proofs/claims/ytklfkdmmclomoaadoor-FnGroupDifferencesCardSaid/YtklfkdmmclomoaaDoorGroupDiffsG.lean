/- FnGroupDifferences: at every slice of bytes the law returns true: two drawn groups have no differences just where they are equal, and their number is the same both ways and the model's. The card ties the table of attitudes to the program's text. No condition. -/
import Derived.Test.YtklfkdmmclomoaaDoorRows
import Derived.Test.YtklfkdmmclomoaaDoorCards
import Derived.Test.YtklfkdmmclomoaaDoorTie
import Derived.WalkKit
import Derived.ProofKit
import Derived.OpenShut
import Derived.ShutString
import Derived.Test.YtklfkdmmclomoaaDoorLawIn
import Derived.Test.YtklfkdmmclomoaaDoorDrawGD
import Derived.Test.YtklfkdmmclomoaaDoorRGroups2
import Derived.LaidMore
import Derived.Stop.Joined
import Derived.SevenTiedAt
import Derived.OpenVars
import Derived.ChangeVars
import Derived.ChangeOld
import Derived.Below
namespace Go.Proofs.YtklfkdmmclomoaaDoor.fnGroupDifferences
open Go.ChangeShapes Go.WideShapes Go.ChangeAt Go.RowKit
open Go.ChangeMaps (open_string shut_string)
set_option linter.unusedVariables false

def laidL : List (String × DataW Unit) := [("loop.example/g00884/impl.attitudeWords", Rows.laid_loop_example_g00884_impl_attitudeWords)]

/-- The door's own heap meets the condition. -/
theorem door_met (os : Os) (args : Array Value) : laidMetH Tryd.prog laidL ((World.doorLaid Tryd.prog 400 os).forCall (fun _ _ => 0) ⟨#[], args, []⟩).memory :=
  laidMetH_of_parts3 (fuel := 8) (laidMet_of_run' 8 (by kernel_rfl) (by kernel_rfl)) (by kernel_rfl) (by kernel_rfl)

theorem own : ownKnob Tryd.prog.godebug = none := by kernel_rfl
theorem laidOut : laidOutB Tryd.prog = true := by kernel_rfl

/-- WHAT THE WALK IS TOLD OF A SLICE OF INTEGERS THAT CAME IN: it is nil; or it leads to a row of 'cap' cells, the numbers 'zs' (the first 'len' are its elements, the rest its spare room), each fitting its kind. -/
def IsRow (k : IntKind) (w : World) (a : Option Addr) (len cap : Nat) (zs : List Int) : Prop :=
  (a = none ∧ len = 0 ∧ cap = 0 ∧ zs = []) ∨
  ∃ x, a = some x ∧ len ≤ cap ∧ cap ≤ maxLen ∧ zs.length = cap ∧ (∀ i, i < zs.length → w.cell? (x.add i) = some (.int k (zs.getD i 0))) ∧ ∀ n ∈ zs, (Lit.int k n).wf = true

/-! ### STEP 1: THE WALK: the Go text returns true, AND WRITES NOTHING THAT WAS THERE: 'Below w.heap.size w w'' (Derived/Below.lean: '.refl', '.alloc', '.drew', '.setCell' at a new block, '.trans'). Open each 'IsRow' by 'rcases' AHEAD of 'go_enter'; part every test ahead of the walk. -/
set_option maxHeartbeats 8000000 in
theorem walk (a0 : Option Addr) (len0 cap0 : Nat) (z0 : List Int) (w : World) (w0 : IsRow .u8 w a0 len0 cap0 z0) (hL : laidMetH Tryd.prog laidL w) :
    Calls Tryd.prog 4 #[.slice a0 len0 cap0] w fun e w' => e = .returned (.bool true) ∧ Below w.heap.size w w' := by
  have hA : AttsLie w := attsH hL
  clear hL
  have hR : RdB w w.heap.size a0 len0 := by
    rcases w0 with ⟨rfl, rfl, rfl, rfl⟩ | ⟨⟨b, o, spot⟩, rfl, hl, hm, hz, hc, hwf⟩
    · intro h; omega
    · refine rdb_of (fun k hk => hc k (by omega)) (fun k hk => ?_)
      have e2 : z0.getD k 0 = z0[k]'(by omega) := by simp [List.getD, show k < z0.length by omega]
      have h2 := hwf (z0.getD k 0) (by rw [e2]; exact List.getElem_mem _)
      exact (by simpa [Lit.wf] using h2)
  clear w0
  have hB := vBig_any a0 len0 cap0 w
  by_cases hbig : (65536 : Int) < (len0 : Int)
  · have e1 : decide ((65536 : Int) < (len0 : Int)) = true := by simp; omega
    simp only [e1] at hB
    clear hR
    go_enter Tryd.func4, Tryd.ntmps4
    go_wp2_with (go_at_call 14; refine hB.mono ?_; rintro e w' ⟨rfl, rfl⟩)
    go_ret
    exact ⟨rfl, Below.refl _ _⟩
  · have e1 : decide ((65536 : Int) < (len0 : Int)) = false := by simp; omega
    simp only [e1] at hB
    have hn : len0 ≤ 65536 := by omega
    have cd := drawGD_any a0 len0 cap0 w hR hn
    clear hR
    go_enter Tryd.func4, Tryd.ntmps4
    go_wp2_with (go_at_call 14; refine hB.mono ?_; rintro e w' ⟨rfl, rfl⟩)
    refine cd.mono ?_
    rintro e w1 ⟨⟨d, l, f, s, d', l', f', s', rfl⟩, hb1⟩
    clear hB cd
    have HB1 := Lib.hid hb1
    clear hb1
    obtain ⟨p0, h0⟩ : ∃ p, decide (d = d' ∧ l = l' ∧ f = f' ∧ s = s') = p := ⟨_, rfl⟩
    obtain ⟨x, ok, c1, c2, c3, hx⟩ : ∃ (x : Int) (ok : Bool), (∀ W, Below w.heap.size w W → Calls Tryd.prog 26 #[.agg #[.int .i64 d, .int .i64 l, .int .i64 f, .int .i64 s], .agg #[.int .i64 d', .int .i64 l', .int .i64 f', .int .i64 s']] W fun e w' => e = .returned (.tuple #[.int .i64 x, .bool ok]) ∧ Below W.heap.size W w') ∧ (∀ W, Below w.heap.size w W → Calls Tryd.prog 26 #[.agg #[.int .i64 d', .int .i64 l', .int .i64 f', .int .i64 s'], .agg #[.int .i64 d, .int .i64 l, .int .i64 f, .int .i64 s]] W fun e w' => e = .returned (.tuple #[.int .i64 x, .bool ok]) ∧ Below W.heap.size W w') ∧ (∀ W, Calls Tryd.prog 27 #[.agg #[.int .i64 d, .int .i64 l, .int .i64 f, .int .i64 s], .agg #[.int .i64 d', .int .i64 l', .int .i64 f', .int .i64 s']] W fun e w' => e = .returned (.tuple #[.int .i64 x, .bool ok]) ∧ Below W.heap.size W w') ∧ (ok = true → (x == 0) = p0) := by
      refine ⟨_, _, fun W hb => groupDiff_impl d l f s d' l' f' s' W _ rfl (hA.below hb), fun W hb => ?_, fun W => groupDiff_spec d l f s d' l' f' s' W _ rfl, fun e => ?_⟩
      · rw [gdif_comm, Bool.and_comm]
        exact groupDiff_impl d' l' f' s' d l f s W _ rfl (hA.below hb)
      · rw [if_pos e, gdif_zero, h0]
    have Q := Lib.hid (fun W => h0 ▸ eqGroup_run d l f s d' l' f' s' W)
    clear h0 hA
    have C1 := Lib.hid c1
    have C2 := Lib.hid c2
    have C3 := Lib.hid c3
    have HX := Lib.hid hx
    clear c1 c2 c3 hx
    obtain ⟨b0, hb0⟩ : ∃ b, (x == 0) = b := ⟨_, rfl⟩
    have ex : (x != x) = false := by simp
    go_wp2_with fail
    have hz1 := HB1.out.size
    have HBb := Lib.hid ((HB1.out.alloc (by omega) (.cells #[.int .i64 d, .int .i64 l, .int .i64 f, .int .i64 s] 25 (0, 0))).alloc (by simp; omega) (.cells #[.int .i64 d', .int .i64 l', .int .i64 f', .int .i64 s'] 25 (0, 0)))
    refine (C1.out _ HBb.out).mono ?_
    rintro e w2 ⟨rfl, h2⟩
    have X2 := ((Box.new w1 [.int .i64 d, .int .i64 l, .int .i64 f, .int .i64 s] 25).alloc (.cells #[.int .i64 d', .int .i64 l', .int .i64 f', .int .i64 s'] 25 (0, 0))).below h2
    have Y2 := (Box.new (w1.alloc (.cells #[.int .i64 d, .int .i64 l, .int .i64 f, .int .i64 s] 25 (0, 0))) [.int .i64 d', .int .i64 l', .int .i64 f', .int .i64 s'] 25).below h2
    simp only [World.size_alloc] at Y2
    have x0 := X2.2 0 _ rfl
    have x1 := X2.2 1 _ rfl
    have x2 := X2.2 2 _ rfl
    have x3 := X2.2 3 _ rfl
    have y0 := Y2.2 0 _ rfl
    have y1 := Y2.2 1 _ rfl
    have y2 := Y2.2 2 _ rfl
    have y3 := Y2.2 3 _ rfl
    have HX2 := Lib.hid X2
    have HY2 := Lib.hid Y2
    have HB2 := Lib.hid (HBb.out.trans (h2.mono HBb.out.size))
    clear h2 X2 Y2 
    go_wp2_with fail
    refine (C2.out _ HB2.out).mono ?_
    clear x0 x1 x2 x3 y0 y1 y2 y3
    rintro e w3 ⟨rfl, h3⟩
    have X3 := HX2.out.below h3
    have Y3 := HY2.out.below h3
    have x0 := X3.2 0 _ rfl
    have x1 := X3.2 1 _ rfl
    have x2 := X3.2 2 _ rfl
    have x3 := X3.2 3 _ rfl
    have y0 := Y3.2 0 _ rfl
    have y1 := Y3.2 1 _ rfl
    have y2 := Y3.2 2 _ rfl
    have y3 := Y3.2 3 _ rfl
    have HX3 := Lib.hid X3
    have HY3 := Lib.hid Y3
    have HB3 := Lib.hid (HB2.out.trans (h3.mono HB2.out.size))
    clear h3 X3 Y3 
    go_wp2_with fail
    refine (C3.out _).mono ?_
    clear x0 x1 x2 x3 y0 y1 y2 y3
    rintro e w4 ⟨rfl, h4⟩
    have X4 := HX3.out.below h4
    have Y4 := HY3.out.below h4
    have x0 := X4.2 0 _ rfl
    have x1 := X4.2 1 _ rfl
    have x2 := X4.2 2 _ rfl
    have x3 := X4.2 3 _ rfl
    have y0 := Y4.2 0 _ rfl
    have y1 := Y4.2 1 _ rfl
    have y2 := Y4.2 2 _ rfl
    have y3 := Y4.2 3 _ rfl
    have HX4 := Lib.hid X4
    have HY4 := Lib.hid Y4
    have HB4 := Lib.hid (HB3.out.trans (h4.mono HB3.out.size))
    clear h4 X4 Y4 
    have q1 := Q.out
    cases ok
    · clear HX
      go_wp2_with fail
      go_ret
      exact ⟨rfl, HB4.out⟩
    · have hq := HX.out rfl
      rw [hb0] at hq
      subst hq
      clear HX
      go_wp2_with fail
      go_ret
      exact ⟨by cases b0 <;> rfl, HB4.out⟩

/-! ### THE ROW's STEP: WRITTEN OUT: LEAVE IT -/
set_option maxRecDepth 100000 in
theorem lifted (os : Os) (started : os.Started) (H : Type) (enc : TypeId × Value → H) :
    ReturnsInHanded {} Tryd.checked os 4 .any (fun w args => (Rows.fnGroupDifferencesSpec.pre enc Tryd.prog Tryd.f4 Rows.fnGroupDifferencesRow.domain false w args ∧ laidMetH Tryd.prog laidL w) ∧ sizedMet enc Tryd.prog Tryd.f4 (OpenSpec.ofChange Rows.fnGroupDifferencesSpec) false w args)
      (Rows.fnGroupDifferencesSpec.post enc Tryd.prog Tryd.f4 false true false false) := by
  refine returnsInHanded_of_change_and (C := Tryd.checked) (X := fun w _ => laidMetH Tryd.prog laidL w) (fun _ _ _ hh h => h.of_heap hh) own started (by kernel_rfl) Tryd.func4
    (ChangeSpec.witness_shaped (enc := enc) (C := Tryd.checked) (os := os) (X := fun w _ => laidMetH Tryd.prog laidL w) false (World.doorLaid Tryd.prog 400 os) #[.slice none 0 0] 8 rfl (World.shaped_of_RefB (by kernel_rfl) (by kernel_rfl)) (by kernel_rfl) (by kernel_rfl) (by kernel_rfl) (door_met os _)) ?_
  intro W base args ds gs before hval0 hW _ hsz0 hL _
  have hval : ∀ (j : Nat) t v, Tryd.f4.params[j]? = some t → args[j]? = some v → Value.okWide Tryd.prog W .any base t v := hval0
  have hW' := hW
  obtain ⟨p, q, hA0, hV, rfl, hfz, hnd⟩ := hW
  have hA : DataW.TrodAll enc Tryd.prog W 0 (fun _ => true) true Tryd.f4.params.toList args.toList ds p := hA0
  rw [Tryd.params4] at hA hval
  obtain ⟨v0, vs0, d0, ds0, p0, q0, hargs, rfl, rfl, h0, r0⟩ := trodAll_cons hA
  obtain ⟨rfl, rfl, rfl⟩ := trodAll_nil r0
  obtain rfl : args = #[v0] := by cases args; simp_all
  obtain ⟨gv, tv, csv, fuelv, dv, pv, hgs, _⟩ := trodVars_one hV
  subst hgs
  obtain ⟨a0, len0, cap0, rfl⟩ := okWide_slice Tryd.underlying22 (hval 0 22 v0 rfl rfl)
  have k0 := h0
  have lt0 : ∀ x ∈ p0, x.block < W.heap.size := by obtain ⟨m, hm⟩ := k0; exact DataW.trod_lt m _ _ _ hm
  obtain ⟨z0, w0⟩ : ∃ zs, IsRow .u8 W a0 len0 cap0 zs := by
    obtain ⟨fuel, hf⟩ := h0
    rcases open_ints Tryd.underlying22 Tryd.underlying5 (by kernel_rfl) hf with ⟨hcs, _⟩ | ⟨x, l, c, zs, hcs, _, hl, hm, hz, _, hcell, hwz⟩
    · simp [Value.cells] at hcs
      obtain ⟨rfl, rfl, rfl⟩ := hcs
      exact ⟨[], .inl ⟨rfl, rfl, rfl, rfl⟩⟩
    · simp [Value.cells] at hcs
      obtain ⟨rfl, rfl, rfl⟩ := hcs
      exact ⟨zs, .inr ⟨_, rfl, hl, hm, by simpa using hz, hcell, hwz⟩⟩
  clear hA0 hval0
  refine (walk a0 len0 cap0 z0 W w0 hL).mono fun e W' ⟨he, bel⟩ => ?_
  subst he
  exact ⟨_, rfl, _, _, _, [], _, q, hW', trodAll_mk1 (shut_bool Tryd.underlying4 _), (trodAll_cons_mk (Below.trod laidOut (by kernel_rfl) (of_decide_eq_true (by kernel_rfl)) k0 bel lt0) trodAll_mk0), Below.trodVars (by kernel_rfl) bel (by kernel_rfl) hV, bel.frame _, fun h => by cases h⟩

theorem over : Rows.fnGroupDifferencesRow.holds Tryd.pinned (OpenSpec.ofChange Rows.fnGroupDifferencesSpec) :=
  OpenClaim.holds_of_wide 4 Tryd.f4 rfl rfl rfl rfl rfl rfl rfl ⟨rfl, rfl, rfl, rfl, rfl⟩ rfl rfl rfl rfl rfl (by kernel_rfl) Tryd.func4 (by kernel_rfl)
    (of_decide_eq_true (by kernel_rfl)) (by unfold Func.isWrapper; first | (rw [if_pos (by decide +kernel)]; kernel_rfl) | (rw [if_neg (by decide +kernel)]; exact ⟨rfl, rfl⟩))
    (fun os started H enc _ => lifted os started H enc)

/-- The row's statement. -/
theorem proved : Rows.FnGroupDifferencesSaid :=
  over

/-- THE TIED CARD: the listed variables are those that the program's own text lays. -/
theorem card : Rows.FnGroupDifferencesCardSaid :=
  Claim7.holds_tied_plain_at .later [] [.widerDeep] true (true, "5345184ecfd63a51511ccb799623285e2c420bb998cecc5c2c6c155aed650024") false
    proved (fun _ h => by cases h) (by kernel_rfl) (fun _ h => by cases h) fnGroupDifferences_row_tie rfl ⟨rfl, rfl⟩ (by kernel_rfl) rfl
    (fun f fn hf hfn => by
      obtain rfl : f = 4 := Option.some.inj ((show Tryd.prog.funcNamed "loop.example/g00884/laws.FnGroupDifferences" = some 4 by kernel_rfl).symm.trans hf) |>.symm
      obtain rfl : fn = Tryd.f4 := (Option.some.inj (Tryd.func4.symm.trans hfn)).symm
      exact ⟨by kernel_rfl, fun j t ht => by
        rw [Tryd.params4] at ht
        have hm : t ∈ [22] := by
          have := Array.mem_of_getElem? ht
          simpa using this
        have hall : ([22].all fun u => !Tryd.prog.wantsStandIn u) = true := by kernel_rfl
        exact (show Tryd.prog.wantsStandIn t = false by simpa using List.all_eq_true.1 hall t hm)⟩)
    (by kernel_rfl)
#print axioms card
end Go.Proofs.YtklfkdmmclomoaaDoor.fnGroupDifferences
