/- FnExactLargestBoxes: at every region, valid or not, and every number the law returns true: LargestBoxes of the program answers as its model does, in memory of its own, and leaves its argument as it was. The card ties the table of the library's TrailingZeros to the program's text. No condition. -/
import Derived.Test.YthapidnjioindaaDoorRows
import Derived.Test.YthapidnjioindaaDoorCards
import Derived.Test.YthapidnjioindaaDoorTie
import Derived.WalkKit
import Derived.ProofKit
import Derived.OpenShut
import Derived.ShutString
import Derived.Test.YthapidnjioindaaDoorC11N
import Derived.Test.YthapidnjioindaaDoorC11T
import Derived.Test.YthapidnjioindaaDoorC9L
import Derived.Test.YthapidnjioindaaDoorRegArg
import Derived.Deep.DeepCutAuto
import Derived.LaidMore
import Derived.Stop.Joined
import Derived.SevenTiedAt
import Derived.Test.YthapidnjioindaaDoorRegArg
import Derived.ChangeOld
import Derived.Below
namespace Go.Proofs.YthapidnjioindaaDoor.fnExactLargestBoxes
open Go.ChangeShapes Go.WideShapes Go.ChangeAt Go.RowKit
open Go.ChangeMaps (open_string shut_string)
set_option linter.unusedVariables false

def laidL : List (String × DataW Unit) := [("math/bits.deBruijn32tab", Rows.laid_math_bits_deBruijn32tab), ("math/bits.deBruijn64tab", Rows.laid_math_bits_deBruijn64tab)]

/-- The door's own heap meets the condition. -/
theorem door_met (os : Os) (args : Array Value) : laidMetH Tryd.prog laidL ((World.doorLaid Tryd.prog 400 os).forCall (fun _ _ => 0) ⟨#[], args, []⟩).memory :=
  laidMetH_of_parts3 (fuel := 8) (laidMet_of_run' 8 (by kernel_rfl) (by kernel_rfl)) (by kernel_rfl) (by kernel_rfl)

theorem own : ownKnob Tryd.prog.godebug = none := by kernel_rfl
theorem laidOut : laidOutB Tryd.prog = true := by kernel_rfl

/-- WHAT THE WALK IS TOLD OF A SLICE OF INTEGERS THAT CAME IN: it is nil; or it leads to a row of 'cap' cells, the numbers 'zs' (the first 'len' are its elements, the rest its spare room), each fitting its kind. -/
def IsRow (k : IntKind) (w : World) (a : Option Addr) (len cap : Nat) (zs : List Int) : Prop :=
  (a = none ∧ len = 0 ∧ cap = 0 ∧ zs = []) ∨
  ∃ x, a = some x ∧ len ≤ cap ∧ cap ≤ maxLen ∧ zs.length = cap ∧ (∀ i, i < zs.length → w.cell? (x.add i) = some (.int k (zs.getD i 0))) ∧ ∀ n ∈ zs, (Lit.int k n).wf = true

/-! ### STEP 1: THE WALK: the Go text returns true, AND WRITES NOTHING THAT WAS THERE: 'Below w.heap.size w w'' (Derived/Below.lean: '.refl', '.alloc', '.drew', '.setCell' at a new block, '.trans'). Open each 'IsRow' by 'rcases' AHEAD of 'go_enter'; part every test ahead of the walk. -/
set_option maxHeartbeats 8000000 in
set_option maxRecDepth 100000 in
theorem walk (a0 : Option Addr) (len0 cap0 : Nat) (z0 : List Int) (a1 : Int) (w : World) (w0 : IsRow .i64 w a0 len0 cap0 z0) (w1 : (Lit.int .i64 a1).wf = true) (hL : laidMetH Tryd.prog laidL w) :
    Calls Tryd.prog 5 #[.agg #[.slice a0 len0 cap0], .int .i64 a1] w fun e w' => e = .returned (.bool true) ∧ Below w.heap.size w w' := by
  have hT : TzT w := tzH hL
  have hR0 : RdI w a0 len0 (z0.take len0) ∧ len0 ≤ maxLen ∧ WfI (z0.take len0) := by
    rcases w0 with ⟨rfl, rfl, rfl, rfl⟩ | ⟨⟨b, o, spot⟩, rfl, hl, hm, hz, hc, hwf⟩
    · exact ⟨⟨rfl, fun h => by omega⟩, by unfold maxLen; omega, fun z hz => by simp at hz⟩
    · refine ⟨⟨by simp; omega, fun hn => ?_⟩, by omega, fun z hz => ?_⟩
      · have h0 := hc 0 (by omega)
        have hspot : spot = none := by simpa [Addr.add] using World.cell?_spot h0
        subst hspot
        refine ⟨b, o, rfl, ?_, fun k hk => ?_⟩
        · simp only [Addr.add] at h0
          exact cellI_lt h0
        · have h1 := hc k (by omega)
          have e : (⟨b, o, none⟩ : Addr).add k = ⟨b, o + k, none⟩ := by unfold Addr.add; split <;> simp_all
          rw [e] at h1
          rw [h1]
          congr 2
          simp [List.getD, hk]
      · have := hwf z (List.mem_of_mem_take hz)
        simp [Lit.wf, IntKind.min, IntKind.max, IntKind.signed, IntKind.bits] at this
        omega
  obtain ⟨hR0, hl0, hw0⟩ := hR0
  obtain ⟨X0, hX0⟩ : ∃ X, z0.take len0 = X := ⟨_, rfl⟩
  rw [hX0] at hR0 hw0
  clear hX0 w0
  by_cases hbig : (1048576 : Int) < (len0 : Int)
  · clear hR0 hw0
    go_enter Tryd.func5, Tryd.ntmps5
    go_wp2_with fail
    refine (szRegion_big a0 len0 cap0 1048576 _ (by omega) (by omega) hl0).mono ?_
    rintro e w1 ⟨rfl, hb_⟩
    have HB := Lib.hid (((Below.refl w.heap.size w).alloc (Nat.le_refl _) (.cells #[.slice a0 len0 cap0] 41 (0, 0))).trans (hb_.mono (by simp)))
    clear hb_
    go_wp2_with fail
    go_ret
    exact ⟨rfl, HB.out⟩
  · have hn : len0 ≤ 1048576 := by omega
    obtain ⟨L, ok, hLn, CS, CI⟩ : ∃ (L : List Bx) (ok : Bool), L.length ≤ 40 ∧ (∀ W a c, RdI W a len0 X0 → Calls Tryd.prog 19 #[.agg #[.slice a len0 c], .int .i64 a1] W (AnsBx W L ok)) ∧ (∀ W a c, RdI W a len0 X0 → Below w.heap.size w W → Calls Tryd.prog 18 #[.agg #[.slice a len0 c], .int .i64 a1] W (AnsBx W L ok)) :=
      ⟨_, _, largR_le X0 a1, fun W a c h => large_spec X0 len0 a c a1 W h (by omega), fun W a c h hb => large_impl X0 len0 a c a1 W h hw0 (by omega) (hT.below hb)⟩
    have eok : (ok != ok) = false := by simp
    have e1 : decide ((1048576 : Int) - (len0 : Int) < 0) = false := by simp; omega
    have e0 : decide ((1 : Int) + (len0 : Int) < 0) = false := by simp; omega
    have e2 : decide ((1 : Int) + (L.length : Int) * 3 < 0) = false := by simp; omega
    have e3 : ((1 : Int) + (L.length : Int) * 3 != 1 + (L.length : Int) * 3) = false := by simp
    have HS := Lib.hid CS
    have HI := Lib.hid CI
    have RW0 := Lib.hid hR0
    clear CS CI hR0 hw0 hbig hT hL
    have HB := Lib.hid ((Below.refl w.heap.size w).alloc (Nat.le_refl _) (.cells #[.slice a0 len0 cap0] 41 (0, 0)))
    have B_arg0 := Lib.hid (BoxF.new w [.slice a0 len0 cap0] 41)
    go_enter Tryd.func5, Tryd.ntmps5
    have c_arg0 := B_arg0.out.one.1
    go_wp2_with fail
    clear c_arg0
    refine (szRegion_ok a0 len0 cap0 1048576 _ (by omega) (by omega)).mono ?_
    rintro e w1 ⟨rfl, hb_⟩
    have z_w1 := hb_.size
    try simp only [World.size_alloc] at z_w1
    have B_arg0_ := Lib.hid (B_arg0.out.below hb_)
    have HB_ := Lib.hid (HB.out.trans (hb_.mono HB.out.size))
    clear B_arg0 HB
    have B_arg0 := B_arg0_
    have HB := HB_
    clear B_arg0_ HB_
    clear hb_
    have c_arg0 := B_arg0.out.one.1
    go_wp2_with fail
    clear c_arg0
    refine (toRegion_any X0 len0 a0 cap0 _ (RW0.out.below HB.out) (by omega)).mono ?_
    rintro e w2_ ⟨g_t, rfl, ho_, hb_⟩
    have l_t : ∀ q, (Value.slice (some ⟨g_t, 0, none⟩) len0 len0).ownBlock = some q → _ := fun q hq => World.ownsRow.lt ho_ q hq
    have z_w2_ := hb_.size
    try simp only [World.size_alloc] at l_t z_w2_
    have B_arg0_ := Lib.hid (B_arg0.out.below hb_)
    have HB_ := Lib.hid (HB.out.trans (hb_.mono HB.out.size))
    clear B_arg0 HB
    have B_arg0 := B_arg0_
    have HB := HB_
    clear B_arg0_ HB_
    have R_t := Lib.hid ho_
    clear ho_ hb_
    go_wp2_with fail
    refine (HS.out _ _ _ R_t.out.rd).mono ?_
    rintro e w3 ⟨a_s, c_s, rfl, ho_, hb_⟩
    have l_s : ∀ q, (Value.slice a_s L.length c_s).ownBlock = some q → _ := fun q hq => World.ownsRow.lt ho_ q hq
    have z_w3 := hb_.size
    try simp only [World.size_alloc] at l_s z_w3
    have R_t_ := Lib.hid (R_t.out.below hb_)
    have B_arg0_ := Lib.hid (B_arg0.out.below hb_)
    have HB_ := Lib.hid (HB.out.trans (hb_.mono HB.out.size))
    clear R_t B_arg0 HB
    have R_t := R_t_
    have B_arg0 := B_arg0_
    have HB := HB_
    clear R_t_ B_arg0_ HB_
    have V_s := Lib.hid ho_
    clear ho_ hb_
    clear R_t
    have c_arg0 := B_arg0.out.one.1
    go_wp2_with fail
    clear c_arg0
    refine (toRegion_any X0 len0 a0 cap0 _ (RW0.out.below HB.out) (by omega)).mono ?_
    rintro e w4_ ⟨g_x, rfl, ho_, hb_⟩
    have l_x : ∀ q, (Value.slice (some ⟨g_x, 0, none⟩) len0 len0).ownBlock = some q → _ := fun q hq => World.ownsRow.lt ho_ q hq
    have z_w4_ := hb_.size
    try simp only [World.size_alloc] at l_x z_w4_
    have B_arg0_ := Lib.hid (B_arg0.out.below hb_)
    have V_s_ := Lib.hid (V_s.out.below hb_)
    have HB_ := Lib.hid (HB.out.trans (hb_.mono HB.out.size))
    clear B_arg0 V_s HB
    have B_arg0 := B_arg0_
    have V_s := V_s_
    have HB := HB_
    clear B_arg0_ V_s_ HB_
    have R_x := Lib.hid ho_
    clear ho_ hb_
    have R_x_ := Lib.hid (R_x.out.below ((Below.refl _ w4_).alloc (Nat.le_refl _) (.cells #[.slice (some ⟨g_x, 0, none⟩) len0 len0] 26 (0, 0))))
    have B_arg0_ := Lib.hid (B_arg0.out.alloc (.cells #[.slice (some ⟨g_x, 0, none⟩) len0 len0] 26 (0, 0)))
    have V_s_ := Lib.hid (V_s.out.below ((Below.refl _ w4_).alloc (Nat.le_refl _) (.cells #[.slice (some ⟨g_x, 0, none⟩) len0 len0] 26 (0, 0))))
    have HB_ := Lib.hid (HB.out.alloc HB.out.size (.cells #[.slice (some ⟨g_x, 0, none⟩) len0 len0] 26 (0, 0)))
    clear R_x B_arg0 V_s HB
    have R_x := R_x_
    have B_arg0 := B_arg0_
    have V_s := V_s_
    have HB := HB_
    clear R_x_ B_arg0_ V_s_ HB_
    have B_x := Lib.hid (BoxF.new w4_ [.slice (some ⟨g_x, 0, none⟩) len0 len0] 26)
    have c_x := B_x.out.one.1
    go_wp2_with fail
    clear c_x
    refine (HI.out _ _ _ R_x.out.rd HB.out).mono ?_
    rintro e w5 ⟨a_g, c_g, rfl, ho_, hb_⟩
    have l_g : ∀ q, (Value.slice a_g L.length c_g).ownBlock = some q → _ := fun q hq => World.ownsRow.lt ho_ q hq
    have z_w5 := hb_.size
    try simp only [World.size_alloc] at l_g z_w5
    have R_x_ := Lib.hid (R_x.out.below hb_)
    have B_arg0_ := Lib.hid (B_arg0.out.below hb_)
    have B_x_ := Lib.hid (B_x.out.below hb_)
    have V_s_ := Lib.hid (V_s.out.below hb_)
    have HB_ := Lib.hid (HB.out.trans (hb_.mono HB.out.size))
    clear R_x B_arg0 B_x V_s HB
    have R_x := R_x_
    have B_arg0 := B_arg0_
    have B_x := B_x_
    have V_s := V_s_
    have HB := HB_
    clear R_x_ B_arg0_ B_x_ V_s_ HB_
    have V_g := Lib.hid ho_
    clear ho_ hb_
    go_wp2_with fail
    refine (eqBoxS_true L L.length a_g a_s c_g c_s _ V_g.out.rd V_s.out.rd (by omega)).mono ?_
    rintro e w6 ⟨rfl, hb_⟩
    have z_w6 := hb_.size
    try simp only [World.size_alloc] at z_w6
    have R_x_ := Lib.hid (R_x.out.below hb_)
    have B_arg0_ := Lib.hid (B_arg0.out.below hb_)
    have B_x_ := Lib.hid (B_x.out.below hb_)
    have V_s_ := Lib.hid (V_s.out.below hb_)
    have V_g_ := Lib.hid (V_g.out.below hb_)
    have HB_ := Lib.hid (HB.out.trans (hb_.mono HB.out.size))
    clear R_x B_arg0 B_x V_s V_g HB
    have R_x := R_x_
    have B_arg0 := B_arg0_
    have B_x := B_x_
    have V_s := V_s_
    have V_g := V_g_
    have HB := HB_
    clear R_x_ B_arg0_ B_x_ V_s_ V_g_ HB_
    clear hb_
    have z_wc := HB.out.size
    go_upto_region 10 with fail
    refine wp_region_noPanic ?_
    refine wp_region_held_drew (S := fun W => BoxF W w4_.heap.size [.slice (some ⟨g_x, 0, none⟩) len0 len0] 26 ∧ BoxF W w.heap.size [.slice a0 len0 cap0] 41 ∧ Below w6.heap.size w6 W) (by kernel_rfl) ⟨B_x.out, B_arg0.out, below_drewN' (Below.refl _ _) 1⟩ (fun hHeld => ?_)
    generalize w6.drew = Wd at *
    refine wpAnyH_take (i := 0) (oi := { dst := some 45, op := _, type := _, pos := _, after := _, guard := _ }) (v := .agg #[.slice (some ⟨g_x, 0, none⟩) len0 len0]) rfl (by kernel_rfl) (by kernel_rfl) (by kernel_rfl) (fun _ _ _ h => h) (Or.inl ⟨by rfl, ?_⟩) hHeld ?_
    · (intro w_ hSw; have c_ := hSw.1.one.1; clear hSw; go_simp; first | done | with_reducible rfl | rfl | (intro h_; omega) | (simp only [IntKind.wrap, IntKind.bits, IntKind.signed]; omega) | (simp [IntKind.wrap, IntKind.bits, IntKind.signed]; omega))
    set_option linter.unusedSimpArgs false in try simp only [Act.put, List.setIfInBounds_toArray, List.set_cons_zero, List.set_cons_succ]
    refine wpAnyH_take (i := 1) (oi := { dst := some 46, op := _, type := _, pos := _, after := _, guard := _ }) (v := .agg #[.slice a0 len0 cap0]) rfl (by kernel_rfl) (by kernel_rfl) (by kernel_rfl) (fun _ _ _ h => h) (Or.inl ⟨by rfl, ?_⟩) hHeld ?_
    · (intro w_ hSw; have c_ := hSw.2.1.one.1; clear hSw; go_simp; first | done | with_reducible rfl | rfl | (intro h_; omega) | (simp only [IntKind.wrap, IntKind.bits, IntKind.signed]; omega) | (simp [IntKind.wrap, IntKind.bits, IntKind.signed]; omega))
    set_option linter.unusedSimpArgs false in try simp only [Act.put, List.setIfInBounds_toArray, List.set_cons_zero, List.set_cons_succ]
    refine wpAnyH_ready (rs := [2]) (by kernel_rfl) (by simp) ?_
    refine AllReadyH.cons rfl (fun K hK => ?_) ?_
    rotate_left
    · exact AllReadyH.nil
    try rw [if_pos (by rfl)]
    go_simp
    refine (toRegion_any X0 len0 a0 cap0 _ (RW0.out.below (HB.out.trans (hHeld.2.2.mono z_wc))) (by omega)).mono ?_
    rintro e wA ⟨gA, rfl, hoA, hbA⟩
    have g0 : BoxF wA w4_.heap.size [.slice (some ⟨g_x, 0, none⟩) len0 len0] 26 ∧ BoxF wA w.heap.size [.slice a0 len0 cap0] 41 ∧ Below w6.heap.size w6 wA := ⟨hHeld.1.below hbA, hHeld.2.1.below hbA, hHeld.2.2.trans (hbA.mono hHeld.2.2.size)⟩
    have HOA := Lib.hid hoA.rd
    clear hoA hbA
    go_wp2_with fail
    refine hK.out _ _ (g0) (fun hHeld => ?_)
    clear hK K
    set_option linter.unusedSimpArgs false in try simp only [Act.put, List.setIfInBounds_toArray, List.set_cons_zero, List.set_cons_succ]

    refine wpAnyH_ready (rs := [3]) (by kernel_rfl) (by simp) ?_
    refine AllReadyH.cons rfl (fun K hK => ?_) ?_
    rotate_left
    · exact AllReadyH.nil
    try rw [if_pos (by rfl)]
    go_simp
    refine (eqRegion_true X0 len0 _ _ _ _ _ (R_x.out.below g0.2.2).rd HOA.out (by omega)).mono ?_
    rintro e wB ⟨rfl, hbB⟩
    have g1 : BoxF wB w4_.heap.size [.slice (some ⟨g_x, 0, none⟩) len0 len0] 26 ∧ BoxF wB w.heap.size [.slice a0 len0 cap0] 41 ∧ Below w6.heap.size w6 wB := ⟨g0.1.below hbB, g0.2.1.below hbB, g0.2.2.trans (hbB.mono g0.2.2.size)⟩
    clear hbB g0
    go_wp2_with fail
    refine hK.out _ _ (g1) (fun hHeld => ?_)
    clear hK K
    set_option linter.unusedSimpArgs false in try simp only [Act.put, List.setIfInBounds_toArray, List.set_cons_zero, List.set_cons_succ]

    refine wpAnyH_take (i := 4) (oi := { dst := some 49, op := _, type := _, pos := _, after := _, guard := _ }) (v := .bool false) rfl (by kernel_rfl) (by kernel_rfl) (by kernel_rfl) (fun _ _ _ h => h) (Or.inl ⟨by rfl, ?_⟩) hHeld ?_
    · (intro w_ hSw; clear hSw; go_simp; first | done | with_reducible rfl | rfl | (intro h_; omega) | (simp only [IntKind.wrap, IntKind.bits, IntKind.signed]; omega) | (simp [IntKind.wrap, IntKind.bits, IntKind.signed]; omega))
    set_option linter.unusedSimpArgs false in try simp only [Act.put, List.setIfInBounds_toArray, List.set_cons_zero, List.set_cons_succ]
    refine wpAnyH_done (by kernel_rfl) ?_ _
    refine NoPanic.normal ?_
    have hb_ := g1.2.2
    clear hHeld g1
    have z_wB := hb_.size
    have R_x_ := Lib.hid (R_x.out.below hb_)
    have B_arg0_ := Lib.hid (B_arg0.out.below hb_)
    have B_x_ := Lib.hid (B_x.out.below hb_)
    have V_s_ := Lib.hid (V_s.out.below hb_)
    have V_g_ := Lib.hid (V_g.out.below hb_)
    have HB_ := Lib.hid (HB.out.trans (hb_.mono HB.out.size))
    clear R_x B_arg0 B_x V_s V_g HB
    have R_x := R_x_
    have B_arg0 := B_arg0_
    have B_x := B_x_
    have V_s := V_s_
    have V_g := V_g_
    have HB := HB_
    clear R_x_ B_arg0_ B_x_ V_s_ V_g_ HB_
    clear hb_
    have c_x := B_x.out.one.1
    go_wp2_with fail
    clear c_x
    refine (markRegion_any X0 len0 _ len0 (some ⟨g_x, 0, none⟩) _ R_x.out (by omega)).mono ?_
    rintro e w7 ⟨rfl, ho_, hg_⟩
    have z_w7 := hg_.size
    try simp only [World.size_alloc] at z_w7
    clear R_x
    have B_arg0_ := Lib.hid (B_arg0.out.kept hg_ (by intro e; have h2 := l_x _ e.symm; omega))
    have B_x_ := Lib.hid (B_x.out.kept hg_ (by intro e; have h2 := l_x _ e.symm; omega))
    have V_s_ := Lib.hid (V_s.out.kept hg_ (by
      cases hq : (Value.slice a_s L.length c_s).ownBlock with
      | none => exact .inl rfl
      | some q => refine .inr ?_; intro e; have h1 := l_s q hq; have h2 := l_x q e.symm; omega))
    have V_g_ := Lib.hid (V_g.out.kept hg_ (by
      cases hq : (Value.slice a_g L.length c_g).ownBlock with
      | none => exact .inl rfl
      | some q => refine .inr ?_; intro e; have h1 := l_g q hq; have h2 := l_x q e.symm; omega))
    have HB_ := Lib.hid (HB.out.grown hg_ HB.out.size (fun q hq => by have := l_x q hq; omega))
    clear B_arg0 B_x V_s V_g HB
    have B_arg0 := B_arg0_
    have B_x := B_x_
    have V_s := V_s_
    have V_g := V_g_
    have HB := HB_
    clear B_arg0_ B_x_ V_s_ V_g_ HB_
    clear ho_ hg_
    go_wp2_with fail
    refine (eqBoxS_true L L.length a_g a_s c_g c_s _ V_g.out.rd V_s.out.rd (by omega)).mono ?_
    rintro e w8 ⟨rfl, hb_⟩
    have z_w8 := hb_.size
    try simp only [World.size_alloc] at z_w8
    have B_arg0_ := Lib.hid (B_arg0.out.below hb_)
    have B_x_ := Lib.hid (B_x.out.below hb_)
    have V_s_ := Lib.hid (V_s.out.below hb_)
    have V_g_ := Lib.hid (V_g.out.below hb_)
    have HB_ := Lib.hid (HB.out.trans (hb_.mono HB.out.size))
    clear B_arg0 B_x V_s V_g HB
    have B_arg0 := B_arg0_
    have B_x := B_x_
    have V_s := V_s_
    have V_g := V_g_
    have HB := HB_
    clear B_arg0_ B_x_ V_s_ V_g_ HB_
    clear hb_
    go_wp2_with fail
    refine (markB_1 L _ c_g a_g _ V_g.out (by omega)).mono ?_
    rintro e w9 ⟨rfl, ho_, hg_⟩
    have z_w9 := hg_.size
    try simp only [World.size_alloc] at z_w9
    clear V_g
    have B_arg0_ := Lib.hid (B_arg0.out.kept hg_ (by intro e; have h2 := l_g _ e.symm; omega))
    have B_x_ := Lib.hid (B_x.out.kept hg_ (by intro e; have h2 := l_g _ e.symm; omega))
    have V_s_ := Lib.hid (V_s.out.kept hg_ (by
      cases hq : (Value.slice a_s L.length c_s).ownBlock with
      | none => exact .inl rfl
      | some q => refine .inr ?_; intro e; have h1 := l_s q hq; have h2 := l_g q e.symm; omega))
    have HB_ := Lib.hid (HB.out.grown hg_ HB.out.size (fun q hq => by have := l_g q hq; omega))
    clear B_arg0 B_x V_s HB
    have B_arg0 := B_arg0_
    have B_x := B_x_
    have V_s := V_s_
    have HB := HB_
    clear B_arg0_ B_x_ V_s_ HB_
    have H_g := Lib.hid ho_
    clear ho_ hg_
    go_wp2_with fail
    refine (heldB_1 L.length a_g c_g _ H_g.out (by omega)).mono ?_
    rintro e w10 ⟨rfl, hb_⟩
    have z_w10 := hb_.size
    try simp only [World.size_alloc] at z_w10
    have B_arg0_ := Lib.hid (B_arg0.out.below hb_)
    have B_x_ := Lib.hid (B_x.out.below hb_)
    have V_s_ := Lib.hid (V_s.out.below hb_)
    have H_g_ := Lib.hid (H_g.out.below hb_)
    have HB_ := Lib.hid (HB.out.trans (hb_.mono HB.out.size))
    clear B_arg0 B_x V_s H_g HB
    have B_arg0 := B_arg0_
    have B_x := B_x_
    have V_s := V_s_
    have H_g := H_g_
    have HB := HB_
    clear B_arg0_ B_x_ V_s_ H_g_ HB_
    clear hb_
    have c_arg0 := B_arg0.out.one.1
    go_wp2_with fail
    clear c_arg0
    refine (toRegion_any X0 len0 a0 cap0 _ (RW0.out.below HB.out) (by omega)).mono ?_
    rintro e w11_ ⟨g_y, rfl, ho_, hb_⟩
    have l_y : ∀ q, (Value.slice (some ⟨g_y, 0, none⟩) len0 len0).ownBlock = some q → _ := fun q hq => World.ownsRow.lt ho_ q hq
    have z_w11_ := hb_.size
    try simp only [World.size_alloc] at l_y z_w11_
    have B_arg0_ := Lib.hid (B_arg0.out.below hb_)
    have B_x_ := Lib.hid (B_x.out.below hb_)
    have V_s_ := Lib.hid (V_s.out.below hb_)
    have H_g_ := Lib.hid (H_g.out.below hb_)
    have HB_ := Lib.hid (HB.out.trans (hb_.mono HB.out.size))
    clear B_arg0 B_x V_s H_g HB
    have B_arg0 := B_arg0_
    have B_x := B_x_
    have V_s := V_s_
    have H_g := H_g_
    have HB := HB_
    clear B_arg0_ B_x_ V_s_ H_g_ HB_
    have R_y := Lib.hid ho_
    clear ho_ hb_
    go_wp2_with fail
    refine (HI.out _ _ _ R_y.out.rd HB.out).mono ?_
    rintro e w12 ⟨a_h, c_h, rfl, ho_, hb_⟩
    have l_h : ∀ q, (Value.slice a_h L.length c_h).ownBlock = some q → _ := fun q hq => World.ownsRow.lt ho_ q hq
    have z_w12 := hb_.size
    try simp only [World.size_alloc] at l_h z_w12
    have R_y_ := Lib.hid (R_y.out.below hb_)
    have B_arg0_ := Lib.hid (B_arg0.out.below hb_)
    have B_x_ := Lib.hid (B_x.out.below hb_)
    have V_s_ := Lib.hid (V_s.out.below hb_)
    have H_g_ := Lib.hid (H_g.out.below hb_)
    have HB_ := Lib.hid (HB.out.trans (hb_.mono HB.out.size))
    clear R_y B_arg0 B_x V_s H_g HB
    have R_y := R_y_
    have B_arg0 := B_arg0_
    have B_x := B_x_
    have V_s := V_s_
    have H_g := H_g_
    have HB := HB_
    clear R_y_ B_arg0_ B_x_ V_s_ H_g_ HB_
    have V_h := Lib.hid ho_
    clear ho_ hb_
    go_wp2_with fail
    refine (eqBoxS_true L L.length a_h a_s c_h c_s _ V_h.out.rd V_s.out.rd (by omega)).mono ?_
    rintro e w13 ⟨rfl, hb_⟩
    have z_w13 := hb_.size
    try simp only [World.size_alloc] at z_w13
    have R_y_ := Lib.hid (R_y.out.below hb_)
    have B_arg0_ := Lib.hid (B_arg0.out.below hb_)
    have B_x_ := Lib.hid (B_x.out.below hb_)
    have V_s_ := Lib.hid (V_s.out.below hb_)
    have V_h_ := Lib.hid (V_h.out.below hb_)
    have H_g_ := Lib.hid (H_g.out.below hb_)
    have HB_ := Lib.hid (HB.out.trans (hb_.mono HB.out.size))
    clear R_y B_arg0 B_x V_s V_h H_g HB
    have R_y := R_y_
    have B_arg0 := B_arg0_
    have B_x := B_x_
    have V_s := V_s_
    have V_h := V_h_
    have H_g := H_g_
    have HB := HB_
    clear R_y_ B_arg0_ B_x_ V_s_ V_h_ H_g_ HB_
    clear hb_
    go_wp2_with fail
    refine (heldB_1 L.length a_g c_g _ H_g.out (by omega)).mono ?_
    rintro e w14 ⟨rfl, hb_⟩
    have z_w14 := hb_.size
    try simp only [World.size_alloc] at z_w14
    have R_y_ := Lib.hid (R_y.out.below hb_)
    have B_arg0_ := Lib.hid (B_arg0.out.below hb_)
    have B_x_ := Lib.hid (B_x.out.below hb_)
    have V_s_ := Lib.hid (V_s.out.below hb_)
    have V_h_ := Lib.hid (V_h.out.below hb_)
    have H_g_ := Lib.hid (H_g.out.below hb_)
    have HB_ := Lib.hid (HB.out.trans (hb_.mono HB.out.size))
    clear R_y B_arg0 B_x V_s V_h H_g HB
    have R_y := R_y_
    have B_arg0 := B_arg0_
    have B_x := B_x_
    have V_s := V_s_
    have V_h := V_h_
    have H_g := H_g_
    have HB := HB_
    clear R_y_ B_arg0_ B_x_ V_s_ V_h_ H_g_ HB_
    clear hb_
    go_wp2_with fail
    go_ret
    exact ⟨rfl, HB.out⟩

/-! ### THE ROW's STEP: WRITTEN OUT: LEAVE IT -/
set_option maxRecDepth 100000 in
theorem lifted (os : Os) (started : os.Started) (H : Type) (enc : TypeId × Value → H) :
    ReturnsInHanded {} Tryd.checked os 5 .any (fun w args => (Rows.fnExactLargestBoxesSpec.pre enc Tryd.prog Tryd.f5 Rows.fnExactLargestBoxesRow.domain false w args ∧ laidMetH Tryd.prog laidL w) ∧ sizedMet enc Tryd.prog Tryd.f5 (OpenSpec.ofChange Rows.fnExactLargestBoxesSpec) false w args)
      (Rows.fnExactLargestBoxesSpec.post enc Tryd.prog Tryd.f5 false true false false) := by
  refine returnsInHanded_of_change_and (C := Tryd.checked) (X := fun w _ => laidMetH Tryd.prog laidL w) (fun _ _ _ hh h => h.of_heap hh) own started (by kernel_rfl) Tryd.func5
    (ChangeSpec.witness_shaped (enc := enc) (C := Tryd.checked) (os := os) (X := fun w _ => laidMetH Tryd.prog laidL w) false (World.doorLaid Tryd.prog 400 os) #[.agg #[.slice none 0 0], .int .i64 0] 8 rfl (World.shaped_of_RefB (by kernel_rfl) (by kernel_rfl)) (by kernel_rfl) (by kernel_rfl) (by kernel_rfl) (door_met os _)) ?_
  intro W base args ds gs before hval0 hW _ hsz0 hL _
  have hval : ∀ (j : Nat) t v, Tryd.f5.params[j]? = some t → args[j]? = some v → Value.okWide Tryd.prog W .any base t v := hval0
  have hW' := hW
  obtain ⟨p, q, hA0, hV, rfl, hfz, hnd⟩ := hW
  have hA : DataW.TrodAll enc Tryd.prog W 0 (fun _ => true) true Tryd.f5.params.toList args.toList ds p := hA0
  rw [Tryd.params5] at hA hval
  obtain ⟨v0, vs0, d0, ds0, p0, q0, hargs, rfl, rfl, h0, r0⟩ := trodAll_cons hA
  obtain ⟨v1, vs1, d1, ds1, p1, q1, rfl, rfl, rfl, h1, r1⟩ := trodAll_cons r0
  obtain ⟨rfl, rfl, rfl⟩ := trodAll_nil r1
  obtain rfl : args = #[v0, v1] := by cases args; simp_all
  obtain ⟨rfl, rfl⟩ := trodVars_none hV
  obtain ⟨a0, len0, cap0, rfl, hs0⟩ := reg_open Tryd.underlying41 (s := 24) rfl rfl (by kernel_rfl) (by kernel_rfl) Tryd.underlying24 Tryd.underlying3 (by kernel_rfl) (hval 0 41 v0 rfl rfl) h0
  have k0 := h0
  have lt0 : ∀ x ∈ p0, x.block < W.heap.size := by obtain ⟨m, hm⟩ := k0; exact DataW.trod_lt m _ _ _ hm
  obtain ⟨z0, w0⟩ : ∃ zs, IsRow .i64 W a0 len0 cap0 zs := by
    obtain ⟨fuel, xx, hf⟩ := hs0
    rcases open_ints Tryd.underlying24 Tryd.underlying3 (by kernel_rfl) hf with ⟨hcs, _⟩ | ⟨x, l, c, zs, hcs, _, hl, hm, hz, _, hcell, hwz⟩
    · simp [Value.cells] at hcs
      obtain ⟨rfl, rfl, rfl⟩ := hcs
      exact ⟨[], .inl ⟨rfl, rfl, rfl, rfl⟩⟩
    · simp [Value.cells] at hcs
      obtain ⟨rfl, rfl, rfl⟩ := hcs
      exact ⟨zs, .inr ⟨_, rfl, hl, hm, by simpa using hz, hcell, hwz⟩⟩
  obtain ⟨a1, rfl, rfl, rfl, w1⟩ := open_int Tryd.underlying3 (hval 1 3 v1 rfl rfl) h1
  clear hA0 hval0
  refine (walk a0 len0 cap0 z0 a1 W w0 w1 hL).mono fun e W' ⟨he, bel⟩ => ?_
  subst he
  exact ⟨_, rfl, _, _, _, [], _, [], hW', trodAll_mk1 (shut_bool Tryd.underlying4 _), (trodAll_cons_mk (Below.trod laidOut (by kernel_rfl) (of_decide_eq_true (by kernel_rfl)) k0 bel lt0) (trodAll_cons_mk (shut_int Tryd.underlying3 w1) trodAll_mk0)), rfl, bel.frame _, fun h => by cases h⟩

theorem over : Rows.fnExactLargestBoxesRow.holds Tryd.pinned (OpenSpec.ofChange Rows.fnExactLargestBoxesSpec) :=
  OpenClaim.holds_of_wide 5 Tryd.f5 rfl rfl rfl rfl rfl rfl rfl ⟨rfl, rfl, rfl, rfl, rfl⟩ rfl rfl rfl rfl rfl (by kernel_rfl) Tryd.func5 (by kernel_rfl)
    (of_decide_eq_true (by kernel_rfl)) (by unfold Func.isWrapper; first | (rw [if_pos (by decide +kernel)]; kernel_rfl) | (rw [if_neg (by decide +kernel)]; exact ⟨rfl, rfl⟩))
    (fun os started H enc _ => lifted os started H enc)

/-- The row's statement. -/
theorem proved : Rows.FnExactLargestBoxesSaid :=
  over

/-- THE TIED CARD: the listed variables are those that the program's own text lays. -/
theorem card : Rows.FnExactLargestBoxesCardSaid :=
  Claim7.holds_tied_plain_at .later [] [.data, .data] true (true, "c9407b8927502c6278181878e412d93467e68ec0650dd3c6c23d90e8e67f75ef") false
    proved (fun _ h => by cases h) (by kernel_rfl) (fun _ h => by cases h) fnExactLargestBoxes_row_tie rfl ⟨rfl, rfl⟩ (by kernel_rfl) rfl
    (fun f fn hf hfn => by
      obtain rfl : f = 5 := Option.some.inj ((show Tryd.prog.funcNamed "loop.example/g00884/laws.FnExactLargestBoxes" = some 5 by kernel_rfl).symm.trans hf) |>.symm
      obtain rfl : fn = Tryd.f5 := (Option.some.inj (Tryd.func5.symm.trans hfn)).symm
      exact ⟨by kernel_rfl, fun j t ht => by
        rw [Tryd.params5] at ht
        have hm : t ∈ [3, 41] := by
          have := Array.mem_of_getElem? ht
          first | simpa using this | (simp at this ⊢; omega) | (simp at this ⊢; rcases this with h | h <;> simp [h])
        have hall : ([3, 41].all fun u => !Tryd.prog.wantsStandIn u) = true := by kernel_rfl
        exact (show Tryd.prog.wantsStandIn t = false by simpa using List.all_eq_true.1 hall t hm)⟩)
    (by kernel_rfl)
#print axioms card
end Go.Proofs.YthapidnjioindaaDoor.fnExactLargestBoxes
