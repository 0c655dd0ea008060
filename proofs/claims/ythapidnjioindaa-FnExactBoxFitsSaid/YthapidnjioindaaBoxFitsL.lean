/- FnExactBoxFits: at every region and every box, valid or not, the law returns true: BoxFits of the program answers as its model does, and leaves its argument as it was. No condition. -/
import Derived.Test.YthapidnjioindaaRows
import Derived.WalkKit
import Derived.ProofKit
import Derived.OpenShut
import Derived.ShutString
import Derived.Test.YthapidnjioindaaC11F
import Derived.Test.YthapidnjioindaaC11T
import Derived.Test.YthapidnjioindaaC9L
import Derived.Test.YthapidnjioindaaRegArg
import Derived.Deep.DeepCutAuto
import Derived.Test.YthapidnjioindaaRegArg
import Derived.Test.YthapidnjioindaaFlat
import Derived.ChangeOld
import Derived.Below
namespace Go.Proofs.Ythapidnjioindaa.fnExactBoxFits
open Go.ChangeShapes Go.WideShapes Go.ChangeAt Go.RowKit
open Go.ChangeMaps (open_string shut_string)
set_option linter.unusedVariables false

theorem cells3 {zs : List Int} (h : zs.length = 3) : ∃ x0 x1 x2 : Int, zs = [x0, x1, x2] := by
  match zs, h with
  | [x0, x1, x2], _ => exact ⟨x0, x1, x2, rfl⟩

theorem own : ownKnob Try.prog.godebug = none := by kernel_rfl
theorem laidOut : laidOutB Try.prog = true := by kernel_rfl

/-- WHAT THE WALK IS TOLD OF A SLICE OF INTEGERS THAT CAME IN: it is nil; or it leads to a row of 'cap' cells, the numbers 'zs' (the first 'len' are its elements, the rest its spare room), each fitting its kind. -/
def IsRow (k : IntKind) (w : World) (a : Option Addr) (len cap : Nat) (zs : List Int) : Prop :=
  (a = none ∧ len = 0 ∧ cap = 0 ∧ zs = []) ∨
  ∃ x, a = some x ∧ len ≤ cap ∧ cap ≤ maxLen ∧ zs.length = cap ∧ (∀ i, i < zs.length → w.cell? (x.add i) = some (.int k (zs.getD i 0))) ∧ ∀ n ∈ zs, (Lit.int k n).wf = true

/-! ### STEP 1: THE WALK: the Go text returns true, AND WRITES NOTHING THAT WAS THERE: 'Below w.heap.size w w'' (Derived/Below.lean: '.refl', '.alloc', '.drew', '.setCell' at a new block, '.trans'). Open each 'IsRow' by 'rcases' AHEAD of 'go_enter'; part every test ahead of the walk. -/
set_option maxHeartbeats 4000000 in
set_option maxRecDepth 100000 in
theorem walk (a0 : Option Addr) (len0 cap0 : Nat) (z0 : List Int) (a1_0 a1_1 a1_2 : Int) (w : World) (w0 : IsRow .i64 w a0 len0 cap0 z0) (w1 : ∀ z ∈ [a1_0, a1_1, a1_2], (Lit.int .i64 z).wf = true) :
    Calls Try.prog 4 #[.agg #[.slice a0 len0 cap0], .agg #[.int .i64 a1_0, .int .i64 a1_1, .int .i64 a1_2]] w fun e w' => e = .returned (.bool true) ∧ Below w.heap.size w w' := by
  have hR0 : RdI w a0 len0 (z0.take len0) ∧ len0 ≤ maxLen ∧ WfI (z0.take len0) := by
    rcases w0 with ⟨rfl, rfl, rfl, rfl⟩ | ⟨⟨b, o, spot⟩, rfl, hl, hm, hz, hc, hwf⟩
    · exact ⟨⟨rfl, fun h => by omega⟩, by unfold maxLen; omega, fun z hz => by simp at hz⟩
    · refine ⟨⟨by simp; omega, fun hn => ?_⟩, by omega, fun z hz => ?_⟩
      · have h0 := hc 0 (by omega)
        have hspot : spot = none := by simpa [Addr.add] using World.cell?_spot h0
        subst hspot
        refine ⟨b, o, rfl, ?_, fun k hk => ?_⟩
        · simp only [Addr.add] at h0
          exact cellI_lt h0
        · have h1 := hc k (by omega)
          have e : (⟨b, o, none⟩ : Addr).add k = ⟨b, o + k, none⟩ := by unfold Addr.add; split <;> simp_all
          rw [e] at h1
          rw [h1]
          congr 2
          simp [List.getD, hk]
      · have := hwf z (List.mem_of_mem_take hz)
        simp [Lit.wf, IntKind.min, IntKind.max, IntKind.signed, IntKind.bits] at this
        omega
  obtain ⟨hR0, hl0, hw0⟩ := hR0
  obtain ⟨X0, hX0⟩ : ∃ X, z0.take len0 = X := ⟨_, rfl⟩
  rw [hX0] at hR0 hw0
  clear hX0 w0
  by_cases hbig : (1048576 : Int) < (len0 : Int)
  · clear hR0 hw0
    go_enter Try.func4, Try.ntmps4
    go_wp2_with fail
    refine (szRegion_big a0 len0 cap0 1048576 _ (by omega) (by omega) hl0).mono ?_
    rintro e w1 ⟨rfl, hb_⟩
    have HB := Lib.hid ((((Below.refl w.heap.size w).alloc (Nat.le_refl _) (.cells #[.slice a0 len0 cap0] 30 (0, 0))).alloc (by simp) (.cells #[.int .i64 a1_0, .int .i64 a1_1, .int .i64 a1_2] 23 (0, 0))).trans (hb_.mono (by simp; omega)))
    clear hb_
    go_wp2_with fail
    go_ret
    exact ⟨rfl, HB.out⟩
  · have hn : len0 ≤ 1048576 := by omega
    obtain ⟨r, s, CS, CI⟩ : ∃ r s : Bool, (∀ W a c, RdI W a len0 X0 → Calls Try.prog 10 #[.agg #[.slice a len0 c], .agg #[.int .i64 a1_0, .int .i64 a1_1, .int .i64 a1_2]] W fun e w' => e = .returned (.tuple #[.bool r, .bool s]) ∧ Below W.heap.size W w') ∧ (∀ W a, RdI W a len0 X0 → Calls Try.prog 12 #[.agg #[.slice a len0 len0], .agg #[.int .i64 a1_0, .int .i64 a1_1, .int .i64 a1_2]] W fun e w' => e = .returned (.tuple #[.bool r, .bool s]) ∧ Below W.heap.size W w') :=
      ⟨_, _, fun W a c h => boxFits_spec X0 len0 a c a1_0 a1_1 a1_2 W h (by omega), fun W a h => boxFits_impl X0 len0 a len0 a1_0 a1_1 a1_2 W h hw0 (by omega) (fun hg => by have h1 := goodR_len hg; have h2 := hR0.1; omega)⟩
    have er : (r != r) = false := by simp
    have es : (s != s) = false := by simp
    have e1 : decide ((1048576 : Int) - (len0 : Int) < 0) = false := by simp; omega
    have HS := Lib.hid CS
    have HI := Lib.hid CI
    have RW0 := Lib.hid hR0
    clear CS CI hR0 hw0 hbig
    have HB := Lib.hid (((Below.refl w.heap.size w).alloc (Nat.le_refl _) (.cells #[.slice a0 len0 cap0] 30 (0, 0))).alloc (by simp) (.cells #[.int .i64 a1_0, .int .i64 a1_1, .int .i64 a1_2] 23 (0, 0)))
    have B_arg0 := Lib.hid ((BoxF.new w [.slice a0 len0 cap0] 30).alloc (.cells #[.int .i64 a1_0, .int .i64 a1_1, .int .i64 a1_2] 23 (0, 0)))
    have B_box := BoxF.new (w.alloc (.cells #[.slice a0 len0 cap0] 30 (0, 0))) [.int .i64 a1_0, .int .i64 a1_1, .int .i64 a1_2] 23
    simp only [World.size_alloc] at B_box
    have B_box := Lib.hid B_box
    go_enter Try.func4, Try.ntmps4
    have c_arg0 := B_arg0.out.one.1
    go_wp2_with fail
    clear c_arg0
    refine (szRegion_ok a0 len0 cap0 1048576 _ (by omega) (by omega)).mono ?_
    rintro e w1 ⟨rfl, hb_⟩
    have z_w1 := hb_.size
    try simp only [World.size_alloc] at z_w1
    have B_arg0_ := Lib.hid (B_arg0.out.below hb_)
    have B_box_ := Lib.hid (B_box.out.below hb_)
    have HB_ := Lib.hid (HB.out.trans (hb_.mono HB.out.size))
    clear B_arg0 B_box HB
    have B_arg0 := B_arg0_
    have B_box := B_box_
    have HB := HB_
    clear B_arg0_ B_box_ HB_
    clear hb_
    go_upto_region 5 with fail
    refine wp_region_noPanic ?_
    refine wp_region_held_drew (S := fun W => BoxF W w.heap.size [.slice a0 len0 cap0] 30 ∧ BoxF W (w.heap.size + 1) [.int .i64 a1_0, .int .i64 a1_1, .int .i64 a1_2] 23 ∧ Below w.heap.size w W) (by kernel_rfl) ⟨B_arg0.out, B_box.out, below_drewN' HB.out 1⟩ (fun hHeld => ?_)
    generalize w1.drew = Wd at *
    clear B_arg0 B_box HB
    refine wpAnyH_take (i := 0) (oi := { dst := some 17, op := _, type := _, pos := _, after := _, guard := _ }) (v := .agg #[.slice a0 len0 cap0]) rfl (by kernel_rfl) (by kernel_rfl) (by kernel_rfl) (fun _ _ _ h => h) (Or.inl ⟨by rfl, ?_⟩) hHeld ?_
    · (intro w_ hSw; have c_ := hSw.1.one.1; clear hSw; go_simp; first | done | with_reducible rfl | rfl | (intro h_; omega) | (simp only [IntKind.wrap, IntKind.bits, IntKind.signed]; omega) | (simp [IntKind.wrap, IntKind.bits, IntKind.signed]; omega))
    set_option linter.unusedSimpArgs false in try simp only [Act.put, List.setIfInBounds_toArray, List.set_cons_zero, List.set_cons_succ]
    refine wpAnyH_take (i := 2) (oi := { dst := some 19, op := _, type := _, pos := _, after := _, guard := _ }) (v := .agg #[.int .i64 a1_0, .int .i64 a1_1, .int .i64 a1_2]) rfl (by kernel_rfl) (by kernel_rfl) (by kernel_rfl) (fun _ _ _ h => h) (Or.inl ⟨by rfl, ?_⟩) hHeld ?_
    · (intro w_ hSw; have c0_ := hSw.2.1.at 0; have c1_ := hSw.2.1.at 1; have c2_ := hSw.2.1.at 2; set_option linter.unusedSimpArgs false in simp only [List.getElem?_cons_zero, List.getElem?_cons_succ] at c0_ c1_ c2_; clear hSw; go_simp; first | done | with_reducible rfl | rfl | (intro h_; omega) | (simp only [IntKind.wrap, IntKind.bits, IntKind.signed]; omega) | (simp [IntKind.wrap, IntKind.bits, IntKind.signed]; omega))
    set_option linter.unusedSimpArgs false in try simp only [Act.put, List.setIfInBounds_toArray, List.set_cons_zero, List.set_cons_succ]
    refine wpAnyH_ready (rs := [1]) (by kernel_rfl) (by simp) ?_
    refine AllReadyH.cons rfl (fun K hK => ?_) ?_
    rotate_left
    · exact AllReadyH.nil
    try rw [if_pos (by rfl)]
    go_simp
    refine (toRegion_any X0 len0 a0 cap0 _ (RW0.out.below hHeld.2.2) (by omega)).mono ?_
    rintro e w3 ⟨gA, rfl, hoA, hbA⟩
    have g0 : BoxF w3 w.heap.size [.slice a0 len0 cap0] 30 ∧ BoxF w3 (w.heap.size + 1) [.int .i64 a1_0, .int .i64 a1_1, .int .i64 a1_2] 23 ∧ Below w.heap.size w w3 := ⟨hHeld.1.below hbA, hHeld.2.1.below hbA, hHeld.2.2.trans (hbA.mono hHeld.2.2.size)⟩
    have HOA := Lib.hid hoA.rd
    clear hoA hbA
    go_wp2_with fail
    refine hK.out _ _ (g0) (fun hHeld => ?_)
    clear hK K
    set_option linter.unusedSimpArgs false in try simp only [Act.put, List.setIfInBounds_toArray, List.set_cons_zero, List.set_cons_succ]

    refine wpAnyH_ready (rs := [3]) (by kernel_rfl) (by simp) ?_
    refine AllReadyH.cons rfl (fun K hK => ?_) ?_
    rotate_left
    · exact AllReadyH.nil
    try rw [if_pos (by rfl)]
    go_simp
    refine (toBox_any a1_0 a1_1 a1_2 _).mono ?_
    rintro e w4 ⟨rfl, hbB⟩
    have g1 : BoxF w4 w.heap.size [.slice a0 len0 cap0] 30 ∧ BoxF w4 (w.heap.size + 1) [.int .i64 a1_0, .int .i64 a1_1, .int .i64 a1_2] 23 ∧ Below w.heap.size w w4 := ⟨g0.1.below hbB, g0.2.1.below hbB, g0.2.2.trans (hbB.mono g0.2.2.size)⟩
    have HOB := Lib.hid (HOA.out.below hbB)
    clear hbB HOA g0
    go_wp2_with fail
    refine hK.out _ _ (g1) (fun hHeld => ?_)
    clear hK K
    set_option linter.unusedSimpArgs false in try simp only [Act.put, List.setIfInBounds_toArray, List.set_cons_zero, List.set_cons_succ]

    refine wpAnyH_ready (rs := [4]) (by kernel_rfl) (by simp) ?_
    refine AllReadyH.cons rfl (fun K hK => ?_) ?_
    rotate_left
    · exact AllReadyH.nil
    try rw [if_pos (by rfl)]
    go_simp
    refine (HS.out _ _ _ HOB.out).mono ?_
    rintro e w5 ⟨rfl, hbC⟩
    have g2 : BoxF w5 w.heap.size [.slice a0 len0 cap0] 30 ∧ BoxF w5 (w.heap.size + 1) [.int .i64 a1_0, .int .i64 a1_1, .int .i64 a1_2] 23 ∧ Below w.heap.size w w5 := ⟨g1.1.below hbC, g1.2.1.below hbC, g1.2.2.trans (hbC.mono g1.2.2.size)⟩
    clear hbC HOB g1
    go_wp2_with fail
    refine hK.out _ _ (g2) (fun hHeld => ?_)
    clear hK K
    set_option linter.unusedSimpArgs false in try simp only [Act.put, List.setIfInBounds_toArray, List.set_cons_zero, List.set_cons_succ]

    refine wpAnyH_take (i := 5) (oi := { dst := some 16, op := _, type := _, pos := _, after := _, guard := _ }) (v := .tuple #[.bool r, .bool s]) rfl (by kernel_rfl) (by kernel_rfl) (by kernel_rfl) (fun _ _ _ h => h) (Or.inl ⟨by rfl, ?_⟩) hHeld ?_
    · (intro w_ hSw; clear hSw; go_simp; first | done | with_reducible rfl | rfl | (intro h_; omega) | (simp only [IntKind.wrap, IntKind.bits, IntKind.signed]; omega) | (simp [IntKind.wrap, IntKind.bits, IntKind.signed]; omega))
    set_option linter.unusedSimpArgs false in try simp only [Act.put, List.setIfInBounds_toArray, List.set_cons_zero, List.set_cons_succ]
    refine wpAnyH_take (i := 6) (oi := { dst := some 22, op := _, type := _, pos := _, after := _, guard := _ }) (v := .bool r) rfl (by kernel_rfl) (by kernel_rfl) (by kernel_rfl) (fun _ _ _ h => h) (Or.inl ⟨by rfl, ?_⟩) hHeld ?_
    · (intro w_ hSw; clear hSw; go_simp; first | done | with_reducible rfl | rfl | (intro h_; omega) | (simp only [IntKind.wrap, IntKind.bits, IntKind.signed]; omega) | (simp [IntKind.wrap, IntKind.bits, IntKind.signed]; omega))
    set_option linter.unusedSimpArgs false in try simp only [Act.put, List.setIfInBounds_toArray, List.set_cons_zero, List.set_cons_succ]
    refine wpAnyH_take (i := 7) (oi := { dst := some 23, op := _, type := _, pos := _, after := _, guard := _ }) (v := .bool s) rfl (by kernel_rfl) (by kernel_rfl) (by kernel_rfl) (fun _ _ _ h => h) (Or.inl ⟨by rfl, ?_⟩) hHeld ?_
    · (intro w_ hSw; clear hSw; go_simp; first | done | with_reducible rfl | rfl | (intro h_; omega) | (simp only [IntKind.wrap, IntKind.bits, IntKind.signed]; omega) | (simp [IntKind.wrap, IntKind.bits, IntKind.signed]; omega))
    set_option linter.unusedSimpArgs false in try simp only [Act.put, List.setIfInBounds_toArray, List.set_cons_zero, List.set_cons_succ]
    refine wpAnyH_take (i := 8) (oi := { dst := some 6, op := _, type := _, pos := _, after := _, guard := _ }) (v := .bool r) rfl (by kernel_rfl) (by kernel_rfl) (by kernel_rfl) (fun _ _ _ h => h) (Or.inl ⟨by rfl, ?_⟩) hHeld ?_
    · (intro w_ hSw; clear hSw; go_simp; first | done | with_reducible rfl | rfl | (intro h_; omega) | (simp only [IntKind.wrap, IntKind.bits, IntKind.signed]; omega) | (simp [IntKind.wrap, IntKind.bits, IntKind.signed]; omega))
    set_option linter.unusedSimpArgs false in try simp only [Act.put, List.setIfInBounds_toArray, List.set_cons_zero, List.set_cons_succ]
    refine wpAnyH_take (i := 9) (oi := { dst := some 7, op := _, type := _, pos := _, after := _, guard := _ }) (v := .bool s) rfl (by kernel_rfl) (by kernel_rfl) (by kernel_rfl) (fun _ _ _ h => h) (Or.inl ⟨by rfl, ?_⟩) hHeld ?_
    · (intro w_ hSw; clear hSw; go_simp; first | done | with_reducible rfl | rfl | (intro h_; omega) | (simp only [IntKind.wrap, IntKind.bits, IntKind.signed]; omega) | (simp [IntKind.wrap, IntKind.bits, IntKind.signed]; omega))
    set_option linter.unusedSimpArgs false in try simp only [Act.put, List.setIfInBounds_toArray, List.set_cons_zero, List.set_cons_succ]
    refine wpAnyH_done (by kernel_rfl) ?_ _
    refine NoPanic.normal ?_
    have B_arg0 := Lib.hid hHeld.1
    have B_box := Lib.hid hHeld.2.1
    have HB := Lib.hid hHeld.2.2
    clear hHeld g2
    have z_w5 := HB.out.size
    have c_arg0 := B_arg0.out.one.1
    go_wp2_with fail
    clear c_arg0
    refine (toRegion_any X0 len0 a0 cap0 _ (RW0.out.below HB.out) (by omega)).mono ?_
    rintro e w6_ ⟨g_x, rfl, ho_, hb_⟩
    have l_x : ∀ q, (Value.slice (some ⟨g_x, 0, none⟩) len0 len0).ownBlock = some q → _ := fun q hq => World.ownsRow.lt ho_ q hq
    have z_w6_ := hb_.size
    try simp only [World.size_alloc] at l_x z_w6_
    have B_arg0_ := Lib.hid (B_arg0.out.below hb_)
    have B_box_ := Lib.hid (B_box.out.below hb_)
    have HB_ := Lib.hid (HB.out.trans (hb_.mono HB.out.size))
    clear B_arg0 B_box HB
    have B_arg0 := B_arg0_
    have B_box := B_box_
    have HB := HB_
    clear B_arg0_ B_box_ HB_
    have R_x := Lib.hid ho_
    clear ho_ hb_
    have R_x_ := Lib.hid (R_x.out.below ((Below.refl _ w6_).alloc (Nat.le_refl _) (.cells #[.slice (some ⟨g_x, 0, none⟩) len0 len0] 34 (0, 0))))
    have B_arg0_ := Lib.hid (B_arg0.out.alloc (.cells #[.slice (some ⟨g_x, 0, none⟩) len0 len0] 34 (0, 0)))
    have B_box_ := Lib.hid (B_box.out.alloc (.cells #[.slice (some ⟨g_x, 0, none⟩) len0 len0] 34 (0, 0)))
    have HB_ := Lib.hid (HB.out.alloc HB.out.size (.cells #[.slice (some ⟨g_x, 0, none⟩) len0 len0] 34 (0, 0)))
    clear R_x B_arg0 B_box HB
    have R_x := R_x_
    have B_arg0 := B_arg0_
    have B_box := B_box_
    have HB := HB_
    clear R_x_ B_arg0_ B_box_ HB_
    have B_x := Lib.hid (BoxF.new w6_ [.slice (some ⟨g_x, 0, none⟩) len0 len0] 34)
    obtain ⟨q_x, hq_x⟩ : ∃ q, w6_.heap.size = q := ⟨_, rfl⟩
    rw [hq_x] at B_x
    go_upto_region 7 with fail
    refine wp_region_noPanic ?_
    refine wp_region_held_drew (S := fun W => BoxF W q_x [.slice (some ⟨g_x, 0, none⟩) len0 len0] 34 ∧ BoxF W (w.heap.size + 1) [.int .i64 a1_0, .int .i64 a1_1, .int .i64 a1_2] 23 ∧ RdI W (some ⟨g_x, 0, none⟩) len0 X0 ∧ BoxF W w.heap.size [.slice a0 len0 cap0] 30 ∧ Below w.heap.size w W) (by kernel_rfl) ⟨B_x.out, B_box.out, R_x.out.rd, B_arg0.out, below_drewN' HB.out 1⟩ (fun hHeld => ?_)
    generalize (w6_.alloc (.cells #[.slice (some ⟨g_x, 0, none⟩) len0 len0] 34 (0, 0))).drew = Wd at *
    clear B_arg0 B_box B_x R_x HB
    refine wpAnyH_take (i := 0) (oi := { dst := some 27, op := _, type := _, pos := _, after := _, guard := _ }) (v := .agg #[.slice (some ⟨g_x, 0, none⟩) len0 len0]) rfl (by kernel_rfl) (by kernel_rfl) (by kernel_rfl) (fun _ _ _ h => h) (Or.inl ⟨by rfl, ?_⟩) hHeld ?_
    · (intro w_ hSw; have c_ := hSw.1.one.1; clear hSw; go_simp; first | done | with_reducible rfl | rfl | (intro h_; omega) | (simp only [IntKind.wrap, IntKind.bits, IntKind.signed]; omega) | (simp [IntKind.wrap, IntKind.bits, IntKind.signed]; omega))
    set_option linter.unusedSimpArgs false in try simp only [Act.put, List.setIfInBounds_toArray, List.set_cons_zero, List.set_cons_succ]
    refine wpAnyH_take (i := 1) (oi := { dst := some 28, op := _, type := _, pos := _, after := _, guard := _ }) (v := .agg #[.int .i64 a1_0, .int .i64 a1_1, .int .i64 a1_2]) rfl (by kernel_rfl) (by kernel_rfl) (by kernel_rfl) (fun _ _ _ h => h) (Or.inl ⟨by rfl, ?_⟩) hHeld ?_
    · (intro w_ hSw; have c0_ := hSw.2.1.at 0; have c1_ := hSw.2.1.at 1; have c2_ := hSw.2.1.at 2; set_option linter.unusedSimpArgs false in simp only [List.getElem?_cons_zero, List.getElem?_cons_succ] at c0_ c1_ c2_; clear hSw; go_simp; first | done | with_reducible rfl | rfl | (intro h_; omega) | (simp only [IntKind.wrap, IntKind.bits, IntKind.signed]; omega) | (simp [IntKind.wrap, IntKind.bits, IntKind.signed]; omega))
    set_option linter.unusedSimpArgs false in try simp only [Act.put, List.setIfInBounds_toArray, List.set_cons_zero, List.set_cons_succ]
    refine wpAnyH_ready (rs := [2]) (by kernel_rfl) (by simp) ?_
    refine AllReadyH.cons rfl (fun K hK => ?_) ?_
    rotate_left
    · exact AllReadyH.nil
    try rw [if_pos (by rfl)]
    go_simp
    refine (toBox_any a1_0 a1_1 a1_2 _).mono ?_
    rintro e w8 ⟨rfl, hbB⟩
    have g1 : BoxF w8 q_x [.slice (some ⟨g_x, 0, none⟩) len0 len0] 34 ∧ BoxF w8 (w.heap.size + 1) [.int .i64 a1_0, .int .i64 a1_1, .int .i64 a1_2] 23 ∧ RdI w8 (some ⟨g_x, 0, none⟩) len0 X0 ∧ BoxF w8 w.heap.size [.slice a0 len0 cap0] 30 ∧ Below w.heap.size w w8 := ⟨hHeld.1.below hbB, hHeld.2.1.below hbB, hHeld.2.2.1.below hbB, hHeld.2.2.2.1.below hbB, hHeld.2.2.2.2.trans (hbB.mono hHeld.2.2.2.2.size)⟩
    clear hbB
    go_wp2_with fail
    refine hK.out _ _ (g1) (fun hHeld => ?_)
    clear hK K
    set_option linter.unusedSimpArgs false in try simp only [Act.put, List.setIfInBounds_toArray, List.set_cons_zero, List.set_cons_succ]

    refine wpAnyH_ready (rs := [3]) (by kernel_rfl) (by simp) ?_
    refine AllReadyH.cons rfl (fun K hK => ?_) ?_
    rotate_left
    · exact AllReadyH.nil
    try rw [if_pos (by rfl)]
    go_simp
    refine (HI.out _ _ g1.2.2.1).mono ?_
    rintro e w9 ⟨rfl, hbC⟩
    have g2 : BoxF w9 q_x [.slice (some ⟨g_x, 0, none⟩) len0 len0] 34 ∧ BoxF w9 (w.heap.size + 1) [.int .i64 a1_0, .int .i64 a1_1, .int .i64 a1_2] 23 ∧ RdI w9 (some ⟨g_x, 0, none⟩) len0 X0 ∧ BoxF w9 w.heap.size [.slice a0 len0 cap0] 30 ∧ Below w.heap.size w w9 := ⟨g1.1.below hbC, g1.2.1.below hbC, g1.2.2.1.below hbC, g1.2.2.2.1.below hbC, g1.2.2.2.2.trans (hbC.mono g1.2.2.2.2.size)⟩
    clear hbC g1
    go_wp2_with fail
    refine hK.out _ _ (g2) (fun hHeld => ?_)
    clear hK K
    set_option linter.unusedSimpArgs false in try simp only [Act.put, List.setIfInBounds_toArray, List.set_cons_zero, List.set_cons_succ]

    refine wpAnyH_take (i := 4) (oi := { dst := some 26, op := _, type := _, pos := _, after := _, guard := _ }) (v := .tuple #[.bool r, .bool s]) rfl (by kernel_rfl) (by kernel_rfl) (by kernel_rfl) (fun _ _ _ h => h) (Or.inl ⟨by rfl, ?_⟩) hHeld ?_
    · (intro w_ hSw; clear hSw; go_simp; first | done | with_reducible rfl | rfl | (intro h_; omega) | (simp only [IntKind.wrap, IntKind.bits, IntKind.signed]; omega) | (simp [IntKind.wrap, IntKind.bits, IntKind.signed]; omega))
    set_option linter.unusedSimpArgs false in try simp only [Act.put, List.setIfInBounds_toArray, List.set_cons_zero, List.set_cons_succ]
    refine wpAnyH_take (i := 5) (oi := { dst := some 31, op := _, type := _, pos := _, after := _, guard := _ }) (v := .bool r) rfl (by kernel_rfl) (by kernel_rfl) (by kernel_rfl) (fun _ _ _ h => h) (Or.inl ⟨by rfl, ?_⟩) hHeld ?_
    · (intro w_ hSw; clear hSw; go_simp; first | done | with_reducible rfl | rfl | (intro h_; omega) | (simp only [IntKind.wrap, IntKind.bits, IntKind.signed]; omega) | (simp [IntKind.wrap, IntKind.bits, IntKind.signed]; omega))
    set_option linter.unusedSimpArgs false in try simp only [Act.put, List.setIfInBounds_toArray, List.set_cons_zero, List.set_cons_succ]
    refine wpAnyH_take (i := 6) (oi := { dst := some 32, op := _, type := _, pos := _, after := _, guard := _ }) (v := .bool s) rfl (by kernel_rfl) (by kernel_rfl) (by kernel_rfl) (fun _ _ _ h => h) (Or.inl ⟨by rfl, ?_⟩) hHeld ?_
    · (intro w_ hSw; clear hSw; go_simp; first | done | with_reducible rfl | rfl | (intro h_; omega) | (simp only [IntKind.wrap, IntKind.bits, IntKind.signed]; omega) | (simp [IntKind.wrap, IntKind.bits, IntKind.signed]; omega))
    set_option linter.unusedSimpArgs false in try simp only [Act.put, List.setIfInBounds_toArray, List.set_cons_zero, List.set_cons_succ]
    refine wpAnyH_take (i := 7) (oi := { dst := some 9, op := _, type := _, pos := _, after := _, guard := _ }) (v := .bool r) rfl (by kernel_rfl) (by kernel_rfl) (by kernel_rfl) (fun _ _ _ h => h) (Or.inl ⟨by rfl, ?_⟩) hHeld ?_
    · (intro w_ hSw; clear hSw; go_simp; first | done | with_reducible rfl | rfl | (intro h_; omega) | (simp only [IntKind.wrap, IntKind.bits, IntKind.signed]; omega) | (simp [IntKind.wrap, IntKind.bits, IntKind.signed]; omega))
    set_option linter.unusedSimpArgs false in try simp only [Act.put, List.setIfInBounds_toArray, List.set_cons_zero, List.set_cons_succ]
    refine wpAnyH_take (i := 8) (oi := { dst := some 10, op := _, type := _, pos := _, after := _, guard := _ }) (v := .bool s) rfl (by kernel_rfl) (by kernel_rfl) (by kernel_rfl) (fun _ _ _ h => h) (Or.inl ⟨by rfl, ?_⟩) hHeld ?_
    · (intro w_ hSw; clear hSw; go_simp; first | done | with_reducible rfl | rfl | (intro h_; omega) | (simp only [IntKind.wrap, IntKind.bits, IntKind.signed]; omega) | (simp [IntKind.wrap, IntKind.bits, IntKind.signed]; omega))
    set_option linter.unusedSimpArgs false in try simp only [Act.put, List.setIfInBounds_toArray, List.set_cons_zero, List.set_cons_succ]
    refine wpAnyH_done (by kernel_rfl) ?_ _
    refine NoPanic.normal ?_
    have HH := Lib.hid hHeld
    clear hHeld g2
    go_wp2_with fail
    go_upto_region 10 with fail
    refine wp_region_noPanic ?_
    refine wp_region_held_drew (S := fun W => BoxF W q_x [.slice (some ⟨g_x, 0, none⟩) len0 len0] 34 ∧ RdI W (some ⟨g_x, 0, none⟩) len0 X0 ∧ BoxF W w.heap.size [.slice a0 len0 cap0] 30 ∧ Below w.heap.size w W) (by kernel_rfl) ⟨HH.out.1, HH.out.2.2.1, HH.out.2.2.2.1, below_drewN' HH.out.2.2.2.2 1⟩ (fun hHeld => ?_)
    generalize w9.drew = Wd at *
    clear HH
    refine wpAnyH_take (i := 0) (oi := { dst := some 41, op := _, type := _, pos := _, after := _, guard := _ }) (v := .agg #[.slice (some ⟨g_x, 0, none⟩) len0 len0]) rfl (by kernel_rfl) (by kernel_rfl) (by kernel_rfl) (fun _ _ _ h => h) (Or.inl ⟨by rfl, ?_⟩) hHeld ?_
    · (intro w_ hSw; have c_ := hSw.1.one.1; clear hSw; go_simp; first | done | with_reducible rfl | rfl | (intro h_; omega) | (simp only [IntKind.wrap, IntKind.bits, IntKind.signed]; omega) | (simp [IntKind.wrap, IntKind.bits, IntKind.signed]; omega))
    set_option linter.unusedSimpArgs false in try simp only [Act.put, List.setIfInBounds_toArray, List.set_cons_zero, List.set_cons_succ]
    refine wpAnyH_take (i := 1) (oi := { dst := some 42, op := _, type := _, pos := _, after := _, guard := _ }) (v := .agg #[.slice a0 len0 cap0]) rfl (by kernel_rfl) (by kernel_rfl) (by kernel_rfl) (fun _ _ _ h => h) (Or.inl ⟨by rfl, ?_⟩) hHeld ?_
    · (intro w_ hSw; have c_ := hSw.2.2.1.one.1; clear hSw; go_simp; first | done | with_reducible rfl | rfl | (intro h_; omega) | (simp only [IntKind.wrap, IntKind.bits, IntKind.signed]; omega) | (simp [IntKind.wrap, IntKind.bits, IntKind.signed]; omega))
    set_option linter.unusedSimpArgs false in try simp only [Act.put, List.setIfInBounds_toArray, List.set_cons_zero, List.set_cons_succ]
    refine wpAnyH_ready (rs := [2]) (by kernel_rfl) (by simp) ?_
    refine AllReadyH.cons rfl (fun K hK => ?_) ?_
    rotate_left
    · exact AllReadyH.nil
    try rw [if_pos (by rfl)]
    go_simp
    refine (toRegion_any X0 len0 a0 cap0 _ (RW0.out.below hHeld.2.2.2) (by omega)).mono ?_
    rintro e w10 ⟨gA, rfl, hoA, hbA⟩
    have g0 : BoxF w10 q_x [.slice (some ⟨g_x, 0, none⟩) len0 len0] 34 ∧ RdI w10 (some ⟨g_x, 0, none⟩) len0 X0 ∧ BoxF w10 w.heap.size [.slice a0 len0 cap0] 30 ∧ Below w.heap.size w w10 := ⟨hHeld.1.below hbA, hHeld.2.1.below hbA, hHeld.2.2.1.below hbA, hHeld.2.2.2.trans (hbA.mono hHeld.2.2.2.size)⟩
    have HOA := Lib.hid hoA.rd
    clear hoA hbA
    go_wp2_with fail
    refine hK.out _ _ (g0) (fun hHeld => ?_)
    clear hK K
    set_option linter.unusedSimpArgs false in try simp only [Act.put, List.setIfInBounds_toArray, List.set_cons_zero, List.set_cons_succ]

    refine wpAnyH_ready (rs := [3]) (by kernel_rfl) (by simp) ?_
    refine AllReadyH.cons rfl (fun K hK => ?_) ?_
    rotate_left
    · exact AllReadyH.nil
    try rw [if_pos (by rfl)]
    go_simp
    refine (eqRegion_true X0 len0 _ _ _ _ _ g0.2.1 HOA.out (by omega)).mono ?_
    rintro e w11 ⟨rfl, hbB⟩
    have g1 : BoxF w11 q_x [.slice (some ⟨g_x, 0, none⟩) len0 len0] 34 ∧ RdI w11 (some ⟨g_x, 0, none⟩) len0 X0 ∧ BoxF w11 w.heap.size [.slice a0 len0 cap0] 30 ∧ Below w.heap.size w w11 := ⟨g0.1.below hbB, g0.2.1.below hbB, g0.2.2.1.below hbB, g0.2.2.2.trans (hbB.mono g0.2.2.2.size)⟩
    clear hbB g0
    go_wp2_with fail
    refine hK.out _ _ (g1) (fun hHeld => ?_)
    clear hK K
    set_option linter.unusedSimpArgs false in try simp only [Act.put, List.setIfInBounds_toArray, List.set_cons_zero, List.set_cons_succ]

    refine wpAnyH_take (i := 4) (oi := { dst := some 45, op := _, type := _, pos := _, after := _, guard := _ }) (v := .bool false) rfl (by kernel_rfl) (by kernel_rfl) (by kernel_rfl) (fun _ _ _ h => h) (Or.inl ⟨by rfl, ?_⟩) hHeld ?_
    · (intro w_ hSw; clear hSw; go_simp; first | done | with_reducible rfl | rfl | (intro h_; omega) | (simp only [IntKind.wrap, IntKind.bits, IntKind.signed]; omega) | (simp [IntKind.wrap, IntKind.bits, IntKind.signed]; omega))
    set_option linter.unusedSimpArgs false in try simp only [Act.put, List.setIfInBounds_toArray, List.set_cons_zero, List.set_cons_succ]
    refine wpAnyH_done (by kernel_rfl) ?_ _
    refine NoPanic.normal ?_
    have HB := Lib.hid hHeld.2.2.2
    clear hHeld g1
    go_wp2_with fail
    go_ret
    exact ⟨rfl, HB.out⟩

/-! ### THE ROW's STEP: WRITTEN OUT: LEAVE IT -/
set_option maxRecDepth 100000 in
set_option maxHeartbeats 4000000 in
theorem lifted (os : Os) (started : os.Started) (H : Type) (enc : TypeId × Value → H) :
    ReturnsInHanded {} Try.checked os 4 .any (Rows.fnExactBoxFitsSpec.pre6 enc Try.prog Try.f4 Rows.fnExactBoxFitsRow.domain false) (Rows.fnExactBoxFitsSpec.post enc Try.prog Try.f4 false true false false) := by
  refine returnsInHanded_of_change (C := Try.checked) own started (by kernel_rfl) Try.func4
    (ChangeSpec.witness6 (enc := enc) (C := Try.checked) false ⟨#[], #[.agg #[.slice none 0 0], .agg #[.int .i64 0, .int .i64 0, .int .i64 0]], []⟩ 8 (by kernel_rfl) (by kernel_rfl) (by kernel_rfl) (by kernel_rfl)) ?_
  intro W base args ds gs before hval0 hW hcnd _
  have hval : ∀ (j : Nat) t v, Try.f4.params[j]? = some t → args[j]? = some v → Value.okWide Try.prog W .any base t v := hval0
  have hW' := hW
  obtain ⟨p, q, hA0, hV, rfl, hfz, hnd⟩ := hW
  have hA : DataW.TrodAll enc Try.prog W 0 (fun _ => true) true Try.f4.params.toList args.toList ds p := hA0
  rw [Try.params4] at hA hval
  obtain ⟨v0, vs0, d0, ds0, p0, q0, hargs, rfl, rfl, h0, r0⟩ := trodAll_cons hA
  obtain ⟨v1, vs1, d1, ds1, p1, q1, rfl, rfl, rfl, h1, r1⟩ := trodAll_cons r0
  obtain ⟨rfl, rfl, rfl⟩ := trodAll_nil r1
  obtain rfl : args = #[v0, v1] := by cases args; simp_all
  obtain ⟨rfl, rfl⟩ := trodVars_none hV
  obtain ⟨a0, len0, cap0, rfl, hs0⟩ := reg_open Try.underlying30 (s := 28) rfl rfl (by kernel_rfl) (by kernel_rfl) Try.underlying28 Try.underlying3 (by kernel_rfl) (hval 0 30 v0 rfl rfl) h0
  have k0 := h0
  have lt0 : ∀ x ∈ p0, x.block < W.heap.size := by obtain ⟨m, hm⟩ := k0; exact DataW.trod_lt m _ _ _ hm
  obtain ⟨z0, w0⟩ : ∃ zs, IsRow .i64 W a0 len0 cap0 zs := by
    obtain ⟨fuel, xx, hf⟩ := hs0
    rcases open_ints Try.underlying28 Try.underlying3 (by kernel_rfl) hf with ⟨hcs, _⟩ | ⟨x, l, c, zs, hcs, _, hl, hm, hz, _, hcell, hwz⟩
    · simp [Value.cells] at hcs
      obtain ⟨rfl, rfl, rfl⟩ := hcs
      exact ⟨[], .inl ⟨rfl, rfl, rfl, rfl⟩⟩
    · simp [Value.cells] at hcs
      obtain ⟨rfl, rfl, rfl⟩ := hcs
      exact ⟨zs, .inr ⟨_, rfl, hl, hm, by simpa using hz, hcell, hwz⟩⟩
  have k1 := h1
  have lt1 : ∀ x ∈ p1, x.block < W.heap.size := by obtain ⟨m, hm⟩ := k1; exact DataW.trod_lt m _ _ _ hm
  obtain ⟨a1_0, a1_1, a1_2, rfl, w1⟩ : ∃ a1_0 a1_1 a1_2 : Int, v1 = .agg #[.int .i64 a1_0, .int .i64 a1_1, .int .i64 a1_2] ∧ ∀ z ∈ [a1_0, a1_1, a1_2], (Lit.int .i64 z).wf = true := by
    obtain ⟨zs, hl, rfl, hw⟩ := flat_open (n := 3) Try.underlying23 (by kernel_rfl) (by kernel_rfl) (hval 1 23 v1 rfl rfl) h1
    obtain ⟨a1_0, a1_1, a1_2, rfl⟩ := cells3 hl
    exact ⟨a1_0, a1_1, a1_2, rfl, hw⟩
  clear hA0 hval0
  refine (walk a0 len0 cap0 z0 a1_0 a1_1 a1_2 W w0 w1).mono fun e W' ⟨he, bel⟩ => ?_
  subst he
  exact ⟨_, rfl, _, _, _, [], _, [], hW', trodAll_mk1 (shut_bool Try.underlying4 _), (trodAll_cons_mk (Below.trod laidOut (by kernel_rfl) (of_decide_eq_true (by kernel_rfl)) k0 bel lt0) (trodAll_cons_mk (Below.trod (by kernel_rfl) (by kernel_rfl) (of_decide_eq_true (by kernel_rfl)) k1 bel lt1) trodAll_mk0)), rfl, bel.frame _, fun h => by cases h⟩

theorem over : Rows.fnExactBoxFitsRow.holds Try.pinned (OpenSpec.ofChange Rows.fnExactBoxFitsSpec) :=
  OpenClaim.holds_of_wide 4 Try.f4 rfl rfl rfl rfl rfl rfl rfl ⟨rfl, rfl, rfl, rfl, rfl⟩ rfl rfl rfl rfl rfl (by kernel_rfl) Try.func4 (by kernel_rfl)
    (of_decide_eq_true (by kernel_rfl)) (by unfold Func.isWrapper; first | (rw [if_pos (by decide +kernel)]; kernel_rfl) | (rw [if_neg (by decide +kernel)]; exact ⟨rfl, rfl⟩))
    (fun os started H enc _ => lifted os started H enc)

/-- ████ THE STATEMENT ████ -/
theorem proved : Rows.FnExactBoxFitsSaid := over
#print axioms proved
end Go.Proofs.Ythapidnjioindaa.fnExactBoxFits
