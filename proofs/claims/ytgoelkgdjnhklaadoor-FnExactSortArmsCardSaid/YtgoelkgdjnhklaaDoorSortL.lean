/- FnExactSortArms: at every slice of arms the law returns true: SortArms of the program answers as its model does, in memory of its own, and leaves the slice as it is. The card ties the tables of words to the program's text. No condition. -/
import Derived.Test.YtgoelkgdjnhklaaDoorRows
import Derived.Test.YtgoelkgdjnhklaaDoorCards
import Derived.Test.YtgoelkgdjnhklaaDoorTie
import Derived.WalkKit
import Derived.ProofKit
import Derived.OpenShut
import Derived.ShutString
import Derived.Test.YtgoelkgdjnhklaaDoorSortBoth
import Derived.Test.YtgoelkgdjnhklaaDoorArmMark
import Derived.Test.YtgoelkgdjnhklaaDoorKS
import Derived.LaidMore
import Derived.Stop.Joined
import Derived.SevenTiedAt
import Derived.OpenVars
import Derived.ChangeVars
import Derived.ChangeOld
import Derived.Below
namespace Go.Proofs.YtgoelkgdjnhklaaDoor.fnExactSortArms
open Go.ChangeShapes Go.WideShapes Go.ChangeAt Go.RowKit
open Go.ChangeMaps (open_string shut_string)
set_option linter.unusedVariables false

def laidL : List (String × DataW Unit) := [("loop.example/g00884/impl.tinctureWords", Rows.laid_loop_example_g00884_impl_tinctureWords), ("loop.example/g00884/impl.divisionWords", Rows.laid_loop_example_g00884_impl_divisionWords), ("loop.example/g00884/impl.lineWords", Rows.laid_loop_example_g00884_impl_lineWords), ("loop.example/g00884/impl.countWords", Rows.laid_loop_example_g00884_impl_countWords), ("loop.example/g00884/impl.kindWords", Rows.laid_loop_example_g00884_impl_kindWords), ("loop.example/g00884/impl.attitudeWords", Rows.laid_loop_example_g00884_impl_attitudeWords), ("loop.example/g00884/impl.ordinaryWords", Rows.laid_loop_example_g00884_impl_ordinaryWords)]

/-- The door's own heap meets the condition. -/
theorem door_met (os : Os) (args : Array Value) : laidMetH Tryd.prog laidL ((World.doorLaid Tryd.prog 400 os).forCall (fun _ _ => 0) ⟨#[], args, []⟩).memory :=
  laidMetH_of_parts3 (fuel := 8) (laidMet_of_run' 8 (by kernel_rfl) (by kernel_rfl)) (by kernel_rfl) (by kernel_rfl)

theorem readings {H : Type} {enc : TypeId × Value → H} {P : Program} {w : World} {spare : Nat → Bool} {n0 n1 n2 n3 n4 n5 n6 : String} {gs : List (DataW H)} {ps : List MemPlace} (h : DataW.TrodVars enc P w spare [n0, n1, n2, n3, n4, n5, n6] gs ps) : ∃ gv0 gv1 gv2 gv3 gv4 gv5 gv6 : DataW H, gs = [gv0, gv1, gv2, gv3, gv4, gv5, gv6] := by
  cases gs with
  | nil => simp [DataW.TrodVars] at h
  | cons g0 gs =>
  obtain ⟨_, _, _, _, _, _, _, _, _, _, h, _⟩ := h
  cases gs with
  | nil => simp [DataW.TrodVars] at h
  | cons g1 gs =>
  obtain ⟨_, _, _, _, _, _, _, _, _, _, h, _⟩ := h
  cases gs with
  | nil => simp [DataW.TrodVars] at h
  | cons g2 gs =>
  obtain ⟨_, _, _, _, _, _, _, _, _, _, h, _⟩ := h
  cases gs with
  | nil => simp [DataW.TrodVars] at h
  | cons g3 gs =>
  obtain ⟨_, _, _, _, _, _, _, _, _, _, h, _⟩ := h
  cases gs with
  | nil => simp [DataW.TrodVars] at h
  | cons g4 gs =>
  obtain ⟨_, _, _, _, _, _, _, _, _, _, h, _⟩ := h
  cases gs with
  | nil => simp [DataW.TrodVars] at h
  | cons g5 gs =>
  obtain ⟨_, _, _, _, _, _, _, _, _, _, h, _⟩ := h
  cases gs with
  | nil => simp [DataW.TrodVars] at h
  | cons g6 gs =>
  obtain ⟨_, _, _, _, _, _, _, _, _, _, h, _⟩ := h
  obtain ⟨rfl, _⟩ := trodVars_none h
  exact ⟨g0, g1, g2, g3, g4, g5, g6, rfl⟩

theorem own : ownKnob Tryd.prog.godebug = none := by kernel_rfl
theorem laidOut : laidOutB Tryd.prog = true := by kernel_rfl

/-- WHAT THE WALK IS TOLD OF A SLICE OF INTEGERS THAT CAME IN: it is nil; or it leads to a row of 'cap' cells, the numbers 'zs' (the first 'len' are its elements, the rest its spare room), each fitting its kind. -/
def IsRow (k : IntKind) (w : World) (a : Option Addr) (len cap : Nat) (zs : List Int) : Prop :=
  (a = none ∧ len = 0 ∧ cap = 0 ∧ zs = []) ∨
  ∃ x, a = some x ∧ len ≤ cap ∧ cap ≤ maxLen ∧ zs.length = cap ∧ (∀ i, i < zs.length → w.cell? (x.add i) = some (.int k (zs.getD i 0))) ∧ ∀ n ∈ zs, (Lit.int k n).wf = true

/-! ### STEP 1: THE WALK: the Go text returns true, AND WRITES NOTHING THAT WAS THERE: 'Below w.heap.size w w'' (Derived/Below.lean: '.refl', '.alloc', '.drew', '.setCell' at a new block, '.trans'). Open each 'IsRow' by 'rcases' AHEAD of 'go_enter'; part every test ahead of the walk. -/
set_option maxHeartbeats 8000000 in
theorem walk (a0 : Option Addr) (len0 cap0 : Nat) (z0 : List Arm) (w : World) (w0 : IsArms w a0 len0 cap0 z0) (hL : laidMetH Tryd.prog laidL w) :
    Calls Tryd.prog 6 #[.slice a0 len0 cap0] w fun e w' => e = .returned (.bool true) ∧ Below w.heap.size w w' := by
  have hT : STabs w := stabsH hL
  obtain ⟨hR, hm⟩ := w0
  by_cases hn : len0 ≤ 1048576
  · have cz := fun W => szArms_any len0 a0 cap0 W hn
    have e1 : decide (1048576 - (len0 : Int) < 0) = false := by simp; omega
    have CT := Lib.hid (fun W (h : RdA W a0 len0 z0) => toArmsS_box z0 len0 a0 cap0 W h hn)
    have cs := fun (g : Nat) W (h : RdA W (some ⟨g, 0, none⟩) len0 z0) => sort_spec z0 len0 (some ⟨g, 0, none⟩) len0 W h
    have ci := fun (g : Nat) W (h : RdA W (some ⟨g, 0, none⟩) len0 z0) (hb : Below w.heap.size w W) => sort_impl z0 len0 (some ⟨g, 0, none⟩) len0 W h (hT.below hb)
    have CQ := Lib.hid (fun (g g' : Nat) W (h : RdA W (some ⟨g, 0, none⟩) len0 z0) (h' : RdA W (some ⟨g', 0, none⟩) len0 z0) => eqArmsS_true z0 len0 (some ⟨g, 0, none⟩) (some ⟨g', 0, none⟩) len0 len0 W h h' (by omega))
    have hX := sortAns_len z0
    generalize sortAns z0 = X at *
    generalize sortOk z0 = ok at *
    obtain ⟨N, hN⟩ : ∃ N, X.length = N := ⟨_, rfl⟩
    have hX2 : N ≤ 20 := by omega
    have e0 : decide ((1 : Int) + (N : Int) < 0) = false := by simp; omega
    have e2 : decide ((1 : Int) + (len0 : Int) * 15 < 0) = false := by simp; omega
    unfold Ans at cs ci
    rw [hN] at cs ci
    have CS := Lib.hid cs
    have CI := Lib.hid ci
    have HR := Lib.hid hR
    clear cs ci hT hL hR hX hN
    cases ok
    all_goals
      go_enter Tryd.func6, Tryd.ntmps6
      go_wp2_with fail
      refine (cz _).mono ?_
      rintro e w' ⟨rfl, rfl⟩
      clear cz
      go_wp2_with fail
      refine (CT.out _ HR.out).mono ?_
      rintro e w1 ⟨g1, rfl, _, r1, b1, _⟩
      have R1 := Lib.hid r1
      have B1 := Lib.hid b1
      clear r1 b1
      go_wp2_with fail
      refine (CS.out g1 _ R1.out).mono ?_
      rintro e w2 ⟨p0, k0, rfl, o2, b2⟩
      have P2 := Lib.hid o2
      have B2 := Lib.hid (B1.out.trans (b2.mono B1.out.size))
      clear o2 b2 R1 B1
      go_wp2_with fail
      refine (CT.out _ (HR.out.below B2.out)).mono ?_
      rintro e w3 ⟨g3, rfl, l3, r3, b3, x3⟩
      have R3 := Lib.hid r3
      have X3 := Lib.hid x3
      have L3 := Lib.hid l3
      have P3 := Lib.hid (P2.out.rd.below b3)
      have Z0 := Lib.hid (fun (b o : Nat) (e : p0 = some ⟨b, o, none⟩) => (ownI_blk P2.out e).2)
      have B3 := Lib.hid (B2.out.trans (b3.mono B2.out.size))
      have G3 : Hid (g3 < w3.heap.size ∨ len0 = 0) := Lib.hid (by
        rcases Nat.eq_zero_or_pos len0 with h | h
        · exact .inr h
        · obtain ⟨b, o, e, h2, _⟩ := r3.2 h
          cases e; exact .inl h2)
      have HW2 := Lib.hid B2.out.size
      have HW3 := Lib.hid B3.out.size
      have G4 := Lib.hid b3.size
      clear r3 b3 B2 x3 l3 P2
      go_wp2_with fail
      refine (CI.out g3 _ R3.out B3.out).mono ?_
      rintro e w4 ⟨p1, k1, rfl, o4, b4⟩
      have O4 := Lib.hid o4
      have P4 := Lib.hid (P3.out.below b4)
      have R4 := Lib.hid (R3.out.below b4)
      have X4 : Hid (0 < len0 → ∃ L : List Value, L.length = len0 * 15 ∧ BoxF w4 g3 L 37) := Lib.hid (fun h => by
        obtain ⟨L, h1, h2⟩ := X3.out h
        exact ⟨L, h1, h2.below b4⟩)
      have B4 := Lib.hid (B3.out.trans (b4.mono B3.out.size))
      clear b4 R3 B3 o4 P3 X3
      go_wp2_with fail
      refine (eqIntS_true X N _ _ _ _ _ O4.out.rd P4.out (by omega)).mono ?_
      rintro e w5 ⟨rfl, m5, rfl⟩
      go_wp2_with fail
      refine (CT.out _ (HR.out.below (below_drewN' B4.out m5))).mono ?_
      rintro e w6 ⟨g5, rfl, _, r5, b5, _⟩
      have R5 := Lib.hid r5
      have R6 := Lib.hid ((show RdA (w4.drewN m5) (some ⟨g3, 0, none⟩) len0 z0 from R4.out).below b5)
      have P5 := Lib.hid ((P4.out.drewN m5).below b5)
      have O5 := Lib.hid ((O4.out.drewN m5).below b5)
      have X5 : Hid (0 < len0 → ∃ L : List Value, L.length = len0 * 15 ∧ BoxF w6 g3 L 37) := Lib.hid (fun h => by
        obtain ⟨L, h1, h2⟩ := X4.out h
        exact ⟨L, h1, (show BoxF (w4.drewN m5) g3 L 37 from h2).below b5⟩)
      have B5 := Lib.hid ((below_drewN' B4.out m5).trans (b5.mono (below_drewN' B4.out m5).size))
      clear r5 b5 R4 B4 O4 P4 X4
      go_wp2_with fail
      refine (CQ.out g3 g5 _ R6.out R5.out).mono ?_
      rintro e w7 ⟨rfl, b6⟩
      have P6 := Lib.hid (P5.out.below b6)
      have O6 := Lib.hid (O5.out.below b6)
      have X6 : Hid (0 < len0 → ∃ L : List Value, L.length = len0 * 15 ∧ BoxF w7 g3 L 37) := Lib.hid (fun h => by
        obtain ⟨L, h1, h2⟩ := X5.out h
        exact ⟨L, h1, h2.below b6⟩)
      have B6 := Lib.hid (B5.out.trans (b6.mono B5.out.size))
      clear b6 B5 R5 R6 O5 P5 X5
      go_wp2_with fail
      refine (markA1 len0 g3 len0 w7 X6.out hn).mono ?_
      rintro e w8 ⟨rfl, row, hg8, hrow⟩
      have P8 := Lib.hid (rdI_grown P6.out hg8 (fun b o e _ h => by have h1 := Z0.out b o e; have h2 := L3.out; have h3 := (hrow b h.symm).1; omega))
      have O8 : Hid (OwnI w8 w3.heap.size p1 N k1 X) := Lib.hid (World.ownsRow.kept O6.out hg8 (by
        rcases hv : (Value.slice p1 N k1).ownBlock with _ | q
        · exact .inl rfl
        · refine .inr fun e => ?_
          have h1 := (World.ownsRow.lt O6.out q hv).1
          have h3 := hrow q e.symm
          rcases G3.out with h2 | h2 <;> omega))
      have B8 := Lib.hid (B6.out.grown hg8 B6.out.size (fun q hq => by rw [(hrow q hq).1]; exact Nat.le_trans HW2.out L3.out))
      clear hg8 hrow P6 O6 X6 B6
      go_wp2_with fail
      refine (eqIntS_true X N _ _ _ _ _ O8.out.rd P8.out (by omega)).mono ?_
      rintro e w9 ⟨rfl, m9, rfl⟩
      go_wp2_with fail
      refine (mark1 X N w3.heap.size k1 p1 (w8.drewN m9) (O8.out.drewN m9) (by omega)).mono ?_
      rintro e w10 ⟨rfl, o10, hg10⟩
      have P10 := Lib.hid (rdI_grown (P8.out.drewN m9) hg10 (fun b o e _ => by
        have h1 := Z0.out b o e
        have h2 := L3.out
        intro h
        have h3 := (World.ownsRow.lt O8.out b h.symm).1
        have h4 := G4.out
        omega))
      have R10 := Lib.hid o10.rd
      have B10 := Lib.hid ((below_drewN' B8.out m9).grown hg10 (below_drewN' B8.out m9).size (fun q hq => Nat.le_trans HW3.out (World.ownsRow.lt O8.out q hq).1))
      clear o10 hg10 P8 O8 B8
      go_wp2_with fail
      refine (held1 N _ _ _ R10.out (by omega)).mono ?_
      rintro e w11 ⟨rfl, m11, rfl⟩
      go_wp2_with fail
      refine (CT.out _ (HR.out.below (below_drewN' B10.out m11))).mono ?_
      rintro e w12 ⟨g12, rfl, _, r12, b12, _⟩
      have R12 := Lib.hid r12
      have B12 := Lib.hid ((below_drewN' B10.out m11).trans (b12.mono (below_drewN' B10.out m11).size))
      have P12 := Lib.hid ((P10.out.drewN m11).below b12)
      have Q12 := Lib.hid ((R10.out.drewN m11).below b12)
      clear r12 b12 P10 R10 B10
      go_wp2_with fail
      refine (CI.out g12 _ R12.out B12.out).mono ?_
      rintro e w13 ⟨p2, k2, rfl, o13, b13⟩
      have O13 := Lib.hid o13.rd
      have P13 := Lib.hid (P12.out.below b13)
      have Q13 := Lib.hid (Q12.out.below b13)
      have B13 := Lib.hid (B12.out.trans (b13.mono B12.out.size))
      clear o13 b13 P12 Q12 B12 R12
      go_wp2_with fail
      refine (eqIntS_true X N _ _ _ _ _ O13.out P13.out (by omega)).mono ?_
      rintro e w14 ⟨rfl, m14, rfl⟩
      go_wp2_with fail
      refine (held1 N _ _ _ (Q13.out.drewN m14) (by omega)).mono ?_
      rintro e w15 ⟨rfl, m15, rfl⟩
      go_wp2_with fail
      go_ret
      exact ⟨rfl, below_drewN' B13.out _⟩
  · have cz := fun W => szArms_big len0 a0 cap0 W (by omega) hm
    clear hT hL hR
    go_enter Tryd.func6, Tryd.ntmps6
    go_wp2_with fail
    refine (cz _).mono ?_
    rintro e w' ⟨rfl, rfl⟩
    clear cz
    go_wp2_with fail
    go_ret
    exact ⟨rfl, Below.refl _ _⟩

/-! ### THE ROW's STEP: WRITTEN OUT: LEAVE IT -/
set_option maxRecDepth 100000 in
theorem lifted (os : Os) (started : os.Started) (H : Type) (enc : TypeId × Value → H) :
    ReturnsInHanded {} Tryd.checked os 6 .any (fun w args => (Rows.fnExactSortArmsSpec.pre enc Tryd.prog Tryd.f6 Rows.fnExactSortArmsRow.domain false w args ∧ laidMetH Tryd.prog laidL w) ∧ sizedMet enc Tryd.prog Tryd.f6 (OpenSpec.ofChange Rows.fnExactSortArmsSpec) false w args)
      (Rows.fnExactSortArmsSpec.post enc Tryd.prog Tryd.f6 false true false false) := by
  refine returnsInHanded_of_change_and (C := Tryd.checked) (X := fun w _ => laidMetH Tryd.prog laidL w) (fun _ _ _ hh h => h.of_heap hh) own started (by kernel_rfl) Tryd.func6
    (ChangeSpec.witness_shaped (enc := enc) (C := Tryd.checked) (os := os) (X := fun w _ => laidMetH Tryd.prog laidL w) false (World.doorLaid Tryd.prog 400 os) #[.slice none 0 0] 8 rfl (World.shaped_of_RefB (by kernel_rfl) (by kernel_rfl)) (by kernel_rfl) (by kernel_rfl) (by kernel_rfl) (door_met os _)) ?_
  intro W base args ds gs before hval0 hW _ hsz0 hL _
  have hval : ∀ (j : Nat) t v, Tryd.f6.params[j]? = some t → args[j]? = some v → Value.okWide Tryd.prog W .any base t v := hval0
  have hW' := hW
  obtain ⟨p, q, hA0, hV, rfl, hfz, hnd⟩ := hW
  have hA : DataW.TrodAll enc Tryd.prog W 0 (fun _ => true) true Tryd.f6.params.toList args.toList ds p := hA0
  rw [Tryd.params6] at hA hval
  obtain ⟨v0, vs0, d0, ds0, p0, q0, hargs, rfl, rfl, h0, r0⟩ := trodAll_cons hA
  obtain ⟨rfl, rfl, rfl⟩ := trodAll_nil r0
  obtain rfl : args = #[v0] := by cases args; simp_all
  obtain ⟨gv0, gv1, gv2, gv3, gv4, gv5, gv6, hgs⟩ := readings hV
  subst hgs
  obtain ⟨a0, len0, cap0, rfl⟩ := okWide_slice Tryd.underlying65 (hval 0 65 v0 rfl rfl)
  have k0 := h0
  have lt0 : ∀ x ∈ p0, x.block < W.heap.size := by obtain ⟨m, hm⟩ := k0; exact DataW.trod_lt m _ _ _ hm
  obtain ⟨z0, w0⟩ : ∃ zs, IsArms W a0 len0 cap0 zs := open_arms Tryd.underlying65 (by kernel_rfl) (by kernel_rfl) h0
  clear hA0 hval0
  refine (walk a0 len0 cap0 z0 W w0 hL).mono fun e W' ⟨he, bel⟩ => ?_
  subst he
  exact ⟨_, rfl, _, _, _, [], _, q, hW', trodAll_mk1 (shut_bool Tryd.underlying4 _), (trodAll_cons_mk (Below.trod laidOut (by kernel_rfl) (of_decide_eq_true (by kernel_rfl)) k0 bel lt0) trodAll_mk0), Below.trodVars (by kernel_rfl) bel (by kernel_rfl) hV, bel.frame _, fun h => by cases h⟩

theorem over : Rows.fnExactSortArmsRow.holds Tryd.pinned (OpenSpec.ofChange Rows.fnExactSortArmsSpec) :=
  OpenClaim.holds_of_wide 6 Tryd.f6 rfl rfl rfl rfl rfl rfl rfl ⟨rfl, rfl, rfl, rfl, rfl⟩ rfl rfl rfl rfl rfl (by kernel_rfl) Tryd.func6 (by kernel_rfl)
    (of_decide_eq_true (by kernel_rfl)) (by unfold Func.isWrapper; first | (rw [if_pos (by decide +kernel)]; kernel_rfl) | (rw [if_neg (by decide +kernel)]; exact ⟨rfl, rfl⟩))
    (fun os started H enc _ => lifted os started H enc)

/-- The row's statement. -/
theorem proved : Rows.FnExactSortArmsSaid :=
  over

/-- THE TIED CARD: the listed variables are those that the program's own text lays. -/
theorem card : Rows.FnExactSortArmsCardSaid :=
  Claim7.holds_tied_plain_at .later [] [.data, .widerDeep, .widerDeep, .widerDeep, .widerDeep, .widerDeep, .widerDeep] true (true, "e4408f4ede5ec6f8c1c13af787bb5d3b18a6a4432b9bbd0dbd0e59aeefa9dca4") true
    proved (fun _ h => by cases h) (by kernel_rfl) (fun _ h => by cases h) fnExactSortArms_row_tie rfl ⟨rfl, rfl⟩ (by kernel_rfl) rfl
    (fun f fn hf hfn => by
      obtain rfl : f = 6 := Option.some.inj ((show Tryd.prog.funcNamed "loop.example/g00884/laws.FnExactSortArms" = some 6 by kernel_rfl).symm.trans hf) |>.symm
      obtain rfl : fn = Tryd.f6 := (Option.some.inj (Tryd.func6.symm.trans hfn)).symm
      exact ⟨by kernel_rfl, fun j t ht => by
        rw [Tryd.params6] at ht
        have hm : t ∈ [65] := by
          have := Array.mem_of_getElem? ht
          first | simpa using this | (simp at this ⊢; omega) | (simp at this ⊢; rcases this with h | h <;> simp [h])
        have hall : ([65].all fun u => !Tryd.prog.wantsStandIn u) = true := by kernel_rfl
        exact (show Tryd.prog.wantsStandIn t = false by simpa using List.all_eq_true.1 hall t hm)⟩)
    (by kernel_rfl)
#print axioms card
end Go.Proofs.YtgoelkgdjnhklaaDoor.fnExactSortArms
