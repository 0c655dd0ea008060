/- FnExactBoundsOf: at every region, valid or not, the law returns true: BoundsOf of the program answers as its model does, in memory of its own, and leaves its argument as it was. The card ties the library's table of trailing zeros to the program's text. No condition. -/
import Derived.Test.YtmmbhglmafnfpaaDoorRows
import Derived.Test.YtmmbhglmafnfpaaDoorCards
import Derived.Test.YtmmbhglmafnfpaaDoorTie
import Derived.WalkKit
import Derived.ProofKit
import Derived.OpenShut
import Derived.ShutString
import Derived.Test.YtmmbhglmafnfpaaDoorC9D
import Derived.Test.YtmmbhglmafnfpaaDoorC9L
import Derived.Test.YtmmbhglmafnfpaaDoorRegArg
import Derived.Deep.DeepCutAuto
import Derived.LaidMore
import Derived.Stop.Joined
import Derived.SevenTiedAt
import Derived.Test.YtmmbhglmafnfpaaDoorRegArg
import Derived.ChangeOld
import Derived.Below
namespace Go.Proofs.YtmmbhglmafnfpaaDoor.fnExactBoundsOf
open Go.ChangeShapes Go.WideShapes Go.ChangeAt Go.RowKit
open Go.ChangeMaps (open_string shut_string)
set_option linter.unusedVariables false

def laidL : List (String × DataW Unit) := [("math/bits.deBruijn32tab", Rows.laid_math_bits_deBruijn32tab), ("math/bits.deBruijn64tab", Rows.laid_math_bits_deBruijn64tab)]

/-- The door's own heap meets the condition. -/
theorem door_met (os : Os) (args : Array Value) : laidMetH Tryd.prog laidL ((World.doorLaid Tryd.prog 400 os).forCall (fun _ _ => 0) ⟨#[], args, []⟩).memory :=
  laidMetH_of_parts3 (fuel := 8) (laidMet_of_run' 8 (by kernel_rfl) (by kernel_rfl)) (by kernel_rfl) (by kernel_rfl)

theorem own : ownKnob Tryd.prog.godebug = none := by kernel_rfl
theorem laidOut : laidOutB Tryd.prog = true := by kernel_rfl

/-- WHAT THE WALK IS TOLD OF A SLICE OF INTEGERS THAT CAME IN: it is nil; or it leads to a row of 'cap' cells, the numbers 'zs' (the first 'len' are its elements, the rest its spare room), each fitting its kind. -/
def IsRow (k : IntKind) (w : World) (a : Option Addr) (len cap : Nat) (zs : List Int) : Prop :=
  (a = none ∧ len = 0 ∧ cap = 0 ∧ zs = []) ∨
  ∃ x, a = some x ∧ len ≤ cap ∧ cap ≤ maxLen ∧ zs.length = cap ∧ (∀ i, i < zs.length → w.cell? (x.add i) = some (.int k (zs.getD i 0))) ∧ ∀ n ∈ zs, (Lit.int k n).wf = true

/-! ### STEP 1: THE WALK: the Go text returns true, AND WRITES NOTHING THAT WAS THERE: 'Below w.heap.size w w'' (Derived/Below.lean: '.refl', '.alloc', '.drew', '.setCell' at a new block, '.trans'). Open each 'IsRow' by 'rcases' AHEAD of 'go_enter'; part every test ahead of the walk. -/
set_option maxHeartbeats 8000000 in
set_option maxRecDepth 100000 in
theorem walk (a0 : Option Addr) (len0 cap0 : Nat) (z0 : List Int) (w : World) (w0 : IsRow .i64 w a0 len0 cap0 z0) (hL : laidMetH Tryd.prog laidL w) :
    Calls Tryd.prog 3 #[.agg #[.slice a0 len0 cap0]] w fun e w' => e = .returned (.bool true) ∧ Below w.heap.size w w' := by
  have TZ0 : TzT w := tzH hL
  clear hL
  have hR0 : RdI w a0 len0 (z0.take len0) ∧ len0 ≤ maxLen ∧ WfI (z0.take len0) := by
    rcases w0 with ⟨rfl, rfl, rfl, rfl⟩ | ⟨⟨b, o, spot⟩, rfl, hl, hm, hz, hc, hwf⟩
    · exact ⟨⟨rfl, fun h => by omega⟩, by unfold maxLen; omega, fun z hz => by simp at hz⟩
    · refine ⟨⟨by simp; omega, fun hn => ?_⟩, by omega, fun z hz => ?_⟩
      · have h0 := hc 0 (by omega)
        have hspot : spot = none := by simpa [Addr.add] using World.cell?_spot h0
        subst hspot
        refine ⟨b, o, rfl, ?_, fun k hk => ?_⟩
        · simp only [Addr.add] at h0
          exact cellI_lt h0
        · have h1 := hc k (by omega)
          have e : (⟨b, o, none⟩ : Addr).add k = ⟨b, o + k, none⟩ := by unfold Addr.add; split <;> simp_all
          rw [e] at h1
          rw [h1]
          congr 2
          simp [List.getD, hk]
      · have := hwf z (List.mem_of_mem_take hz)
        simp [Lit.wf, IntKind.min, IntKind.max, IntKind.signed, IntKind.bits] at this
        omega
  obtain ⟨hR0, hl0, hw0⟩ := hR0
  obtain ⟨X0, hX0⟩ : ∃ X, z0.take len0 = X := ⟨_, rfl⟩
  rw [hX0] at hR0 hw0
  clear hX0 w0
  by_cases hbig : (1048576 : Int) < (len0 : Int)
  · clear hR0 hw0 TZ0
    go_enter Tryd.func3, Tryd.ntmps3
    go_wp2_with fail
    refine (szRegion_big a0 len0 cap0 1048576 _ (by omega) (by omega) hl0).mono ?_
    rintro e w1 ⟨rfl, hb_⟩
    have HB := Lib.hid (((Below.refl w.heap.size w).alloc (Nat.le_refl _) (.cells #[.slice a0 len0 cap0] 24 (0, 0))).trans (hb_.mono (by simp)))
    clear hb_
    go_wp2_with fail
    go_ret
    exact ⟨rfl, HB.out⟩
  · have hn : len0 ≤ 1048576 := by omega
    have TZ := Lib.hid TZ0
    clear TZ0
    obtain ⟨Y, m, ok, hY⟩ := bdAns X0
    have hm : m ≤ 4 := by rcases hY with h | h <;> omega
    have HS := Lib.hid (fun W a c (h : RdI W a len0 X0) => bounds_spec X0 Y m ok hY len0 a c W h (by omega))
    have HI := Lib.hid (fun W a c (h : RdI W a len0 X0) (hT : TzT W) => bounds_impl X0 Y m ok hY len0 a c W h hw0 (by omega) hT)
    have eok : (ok != ok) = false := by simp
    have e1 : decide ((1048576 : Int) - (len0 : Int) < 0) = false := by simp; omega
    have e0 : decide ((1 : Int) + (len0 : Int) < 0) = false := by simp; omega
    have e2 : decide ((1 : Int) + (m : Int) < 0) = false := by simp; omega
    have RW0 := Lib.hid hR0
    clear hR0 hw0 hbig hY
    have HB := Lib.hid ((Below.refl w.heap.size w).alloc (Nat.le_refl _) (.cells #[.slice a0 len0 cap0] 24 (0, 0)))
    have B_arg0 := Lib.hid (BoxF.new w [.slice a0 len0 cap0] 24)
    go_enter Tryd.func3, Tryd.ntmps3
    have c_arg0 := B_arg0.out.one.1
    go_wp2_with fail
    clear c_arg0
    refine (szRegion_ok a0 len0 cap0 1048576 _ (by omega) (by omega)).mono ?_
    rintro e w1 ⟨rfl, hb_⟩
    have z_w1 := hb_.size
    try simp only [World.size_alloc] at z_w1
    have B_arg0_ := Lib.hid (B_arg0.out.below hb_)
    have HB_ := Lib.hid (HB.out.trans (hb_.mono HB.out.size))
    clear B_arg0 HB
    have B_arg0 := B_arg0_
    have HB := HB_
    clear B_arg0_ HB_
    clear hb_
    have c_arg0 := B_arg0.out.one.1
    go_wp2_with fail
    clear c_arg0
    refine (toRegion_any X0 len0 a0 cap0 _ (RW0.out.below HB.out) (by omega)).mono ?_
    rintro e w2_ ⟨g_t, rfl, ho_, hb_⟩
    have l_t : ∀ q, (Value.slice (some ⟨g_t, 0, none⟩) len0 len0).ownBlock = some q → _ := fun q hq => World.ownsRow.lt ho_ q hq
    have z_w2_ := hb_.size
    try simp only [World.size_alloc] at l_t z_w2_
    have B_arg0_ := Lib.hid (B_arg0.out.below hb_)
    have HB_ := Lib.hid (HB.out.trans (hb_.mono HB.out.size))
    clear B_arg0 HB
    have B_arg0 := B_arg0_
    have HB := HB_
    clear B_arg0_ HB_
    have R_t := Lib.hid ho_
    clear ho_ hb_
    go_wp2_with fail
    refine (HS.out _ _ _ R_t.out.rd).mono ?_
    rintro e w3 ⟨a_s, c_s, rfl, ho_, hb_⟩
    have l_s : ∀ q, (Value.slice a_s m c_s).ownBlock = some q → _ := fun q hq => World.ownsRow.lt ho_ q hq
    have z_w3 := hb_.size
    try simp only [World.size_alloc] at l_s z_w3
    have R_t_ := Lib.hid (R_t.out.below hb_)
    have B_arg0_ := Lib.hid (B_arg0.out.below hb_)
    have HB_ := Lib.hid (HB.out.trans (hb_.mono HB.out.size))
    clear R_t B_arg0 HB
    have R_t := R_t_
    have B_arg0 := B_arg0_
    have HB := HB_
    clear R_t_ B_arg0_ HB_
    have R_s := Lib.hid ho_
    clear ho_ hb_
    clear R_t
    have c_arg0 := B_arg0.out.one.1
    go_wp2_with fail
    clear c_arg0
    refine (toRegion_any X0 len0 a0 cap0 _ (RW0.out.below HB.out) (by omega)).mono ?_
    rintro e w4_ ⟨g_x, rfl, ho_, hb_⟩
    have l_x : ∀ q, (Value.slice (some ⟨g_x, 0, none⟩) len0 len0).ownBlock = some q → _ := fun q hq => World.ownsRow.lt ho_ q hq
    have z_w4_ := hb_.size
    try simp only [World.size_alloc] at l_x z_w4_
    have R_s_ := Lib.hid (R_s.out.below hb_)
    have B_arg0_ := Lib.hid (B_arg0.out.below hb_)
    have HB_ := Lib.hid (HB.out.trans (hb_.mono HB.out.size))
    clear R_s B_arg0 HB
    have R_s := R_s_
    have B_arg0 := B_arg0_
    have HB := HB_
    clear R_s_ B_arg0_ HB_
    have R_x := Lib.hid ho_
    clear ho_ hb_
    have R_s_ := Lib.hid (R_s.out.below ((Below.refl _ w4_).alloc (Nat.le_refl _) (.cells #[.slice (some ⟨g_x, 0, none⟩) len0 len0] 28 (0, 0))))
    have R_x_ := Lib.hid (R_x.out.below ((Below.refl _ w4_).alloc (Nat.le_refl _) (.cells #[.slice (some ⟨g_x, 0, none⟩) len0 len0] 28 (0, 0))))
    have B_arg0_ := Lib.hid (B_arg0.out.alloc (.cells #[.slice (some ⟨g_x, 0, none⟩) len0 len0] 28 (0, 0)))
    have HB_ := Lib.hid (HB.out.alloc HB.out.size (.cells #[.slice (some ⟨g_x, 0, none⟩) len0 len0] 28 (0, 0)))
    clear R_s R_x B_arg0 HB
    have R_s := R_s_
    have R_x := R_x_
    have B_arg0 := B_arg0_
    have HB := HB_
    clear R_s_ R_x_ B_arg0_ HB_
    have B_x := Lib.hid (BoxF.new w4_ [.slice (some ⟨g_x, 0, none⟩) len0 len0] 28)
    have c_x := B_x.out.one.1
    go_wp2_with fail
    clear c_x
    refine (HI.out _ _ _ R_x.out.rd (TZ.out.below HB.out)).mono ?_
    rintro e w5 ⟨a_g, c_g, rfl, ho_, hb_⟩
    have l_g : ∀ q, (Value.slice a_g m c_g).ownBlock = some q → _ := fun q hq => World.ownsRow.lt ho_ q hq
    have z_w5 := hb_.size
    try simp only [World.size_alloc] at l_g z_w5
    have R_s_ := Lib.hid (R_s.out.below hb_)
    have R_x_ := Lib.hid (R_x.out.below hb_)
    have B_arg0_ := Lib.hid (B_arg0.out.below hb_)
    have B_x_ := Lib.hid (B_x.out.below hb_)
    have HB_ := Lib.hid (HB.out.trans (hb_.mono HB.out.size))
    clear R_s R_x B_arg0 B_x HB
    have R_s := R_s_
    have R_x := R_x_
    have B_arg0 := B_arg0_
    have B_x := B_x_
    have HB := HB_
    clear R_s_ R_x_ B_arg0_ B_x_ HB_
    have R_g := Lib.hid ho_
    clear ho_ hb_
    go_wp2_with fail
    refine (eqIntS_b Y m a_g a_s c_g c_s _ R_g.out.rd R_s.out.rd (by omega)).mono ?_
    rintro e w6 ⟨rfl, hb_⟩
    have z_w6 := hb_.size
    try simp only [World.size_alloc] at z_w6
    have R_s_ := Lib.hid (R_s.out.below hb_)
    have R_x_ := Lib.hid (R_x.out.below hb_)
    have R_g_ := Lib.hid (R_g.out.below hb_)
    have B_arg0_ := Lib.hid (B_arg0.out.below hb_)
    have B_x_ := Lib.hid (B_x.out.below hb_)
    have HB_ := Lib.hid (HB.out.trans (hb_.mono HB.out.size))
    clear R_s R_x R_g B_arg0 B_x HB
    have R_s := R_s_
    have R_x := R_x_
    have R_g := R_g_
    have B_arg0 := B_arg0_
    have B_x := B_x_
    have HB := HB_
    clear R_s_ R_x_ R_g_ B_arg0_ B_x_ HB_
    clear hb_
    go_upto_region 10 with fail
    go_cut [45] (fun sl wx => sl = .bool false ∧ Below w6.heap.size w6 wx)
    case first =>
      have c_x := B_x.out.one.1
      have c_arg0 := B_arg0.out.one.1
      go_region_with (first | (go_at_call 7; refine (toRegion_any X0 len0 a0 cap0 _ ((RW0.out.below HB.out).drewN 1) (by omega)).mono ?_; rintro e wA ⟨gA, rfl, hoA, hbA⟩; have hwA : Below w6.heap.size w6 wA := ⟨hbA.os, hbA.tape, hbA.output, hbA.size, hbA.block⟩; have hoA2 := Lib.hid hoA; have d_x := (B_x.out.below hwA).one.1; have d_arg0 := (B_arg0.out.below hwA).one.1; clear hoA hbA) | (go_at_call 10; refine (eqRegion_true X0 len0 _ _ _ _ _ (R_x.out.rd.below hwA) hoA2.out.rd (by omega)).mono ?_; rintro e wB ⟨rfl, hbB⟩; have hwB : Below w6.heap.size w6 wB := hwA.trans (hbB.mono hwA.size)))
      all_goals
        go_wp2_with fail
        go_meet
        case rel => exact ⟨rfl, hwB⟩
    case rest =>
      obtain ⟨rfl, hb_⟩ := hcut
      have z_c7 := hb_.size
      have R_s_ := Lib.hid (R_s.out.below hb_)
      have R_x_ := Lib.hid (R_x.out.below hb_)
      have R_g_ := Lib.hid (R_g.out.below hb_)
      have B_arg0_ := Lib.hid (B_arg0.out.below hb_)
      have B_x_ := Lib.hid (B_x.out.below hb_)
      have HB_ := Lib.hid (HB.out.trans (hb_.mono HB.out.size))
      clear R_s R_x R_g B_arg0 B_x HB
      have R_s := R_s_
      have R_x := R_x_
      have R_g := R_g_
      have B_arg0 := B_arg0_
      have B_x := B_x_
      have HB := HB_
      clear R_s_ R_x_ R_g_ B_arg0_ B_x_ HB_
      clear hb_
      have c_x := B_x.out.one.1
      go_wp2_with fail
      clear c_x
      refine (markRegion_any X0 len0 _ len0 (some ⟨g_x, 0, none⟩) _ R_x.out (by omega)).mono ?_
      rintro e w8 ⟨rfl, ho_, hg_⟩
      have z_w8 := hg_.size
      try simp only [World.size_alloc] at z_w8
      have R_s_ := Lib.hid (R_s.out.kept hg_ (by
        cases hq : (Value.slice a_s m c_s).ownBlock with
        | none => exact .inl rfl
        | some q => refine .inr ?_; intro e; have h1 := l_s q hq; have h2 := l_x q e.symm; omega))
      have R_x_ := Lib.hid ho_
      have R_g_ := Lib.hid (R_g.out.kept hg_ (by
        cases hq : (Value.slice a_g m c_g).ownBlock with
        | none => exact .inl rfl
        | some q => refine .inr ?_; intro e; have h1 := l_g q hq; have h2 := l_x q e.symm; omega))
      have B_arg0_ := Lib.hid (B_arg0.out.kept hg_ (by intro e; have h2 := l_x _ e.symm; omega))
      have B_x_ := Lib.hid (B_x.out.kept hg_ (by intro e; have h2 := l_x _ e.symm; omega))
      have HB_ := Lib.hid (HB.out.grown hg_ HB.out.size (fun q hq => by have := l_x q hq; omega))
      clear R_s R_x R_g B_arg0 B_x HB
      have R_s := R_s_
      have R_x := R_x_
      have R_g := R_g_
      have B_arg0 := B_arg0_
      have B_x := B_x_
      have HB := HB_
      clear R_s_ R_x_ R_g_ B_arg0_ B_x_ HB_
      clear ho_ hg_
      go_wp2_with fail
      refine (eqIntS_b Y m a_g a_s c_g c_s _ R_g.out.rd R_s.out.rd (by omega)).mono ?_
      rintro e w9 ⟨rfl, hb_⟩
      have z_w9 := hb_.size
      try simp only [World.size_alloc] at z_w9
      have R_s_ := Lib.hid (R_s.out.below hb_)
      have R_x_ := Lib.hid (R_x.out.below hb_)
      have R_g_ := Lib.hid (R_g.out.below hb_)
      have B_arg0_ := Lib.hid (B_arg0.out.below hb_)
      have B_x_ := Lib.hid (B_x.out.below hb_)
      have HB_ := Lib.hid (HB.out.trans (hb_.mono HB.out.size))
      clear R_s R_x R_g B_arg0 B_x HB
      have R_s := R_s_
      have R_x := R_x_
      have R_g := R_g_
      have B_arg0 := B_arg0_
      have B_x := B_x_
      have HB := HB_
      clear R_s_ R_x_ R_g_ B_arg0_ B_x_ HB_
      clear hb_
      go_wp2_with fail
      refine (mark1 Y m _ c_g a_g _ R_g.out (by omega)).mono ?_
      rintro e w10 ⟨rfl, ho_, hg_⟩
      have z_w10 := hg_.size
      try simp only [World.size_alloc] at z_w10
      have R_s_ := Lib.hid (R_s.out.kept hg_ (by
        cases hq : (Value.slice a_s m c_s).ownBlock with
        | none => exact .inl rfl
        | some q => refine .inr ?_; intro e; have h1 := l_s q hq; have h2 := l_g q e.symm; omega))
      have R_x_ := Lib.hid (R_x.out.kept hg_ (by
        cases hq : (Value.slice (some ⟨g_x, 0, none⟩) len0 len0).ownBlock with
        | none => exact .inl rfl
        | some q => refine .inr ?_; intro e; have h1 := l_x q hq; have h2 := l_g q e.symm; omega))
      have R_g_ := Lib.hid ho_
      have B_arg0_ := Lib.hid (B_arg0.out.kept hg_ (by intro e; have h2 := l_g _ e.symm; omega))
      have B_x_ := Lib.hid (B_x.out.kept hg_ (by intro e; have h2 := l_g _ e.symm; omega))
      have HB_ := Lib.hid (HB.out.grown hg_ HB.out.size (fun q hq => by have := l_g q hq; omega))
      clear R_s R_x R_g B_arg0 B_x HB
      have R_s := R_s_
      have R_x := R_x_
      have R_g := R_g_
      have B_arg0 := B_arg0_
      have B_x := B_x_
      have HB := HB_
      clear R_s_ R_x_ R_g_ B_arg0_ B_x_ HB_
      clear ho_ hg_
      go_wp2_with fail
      refine (held1_b m a_g c_g _ R_g.out.rd (by omega)).mono ?_
      rintro e w11 ⟨rfl, hb_⟩
      have z_w11 := hb_.size
      try simp only [World.size_alloc] at z_w11
      have R_s_ := Lib.hid (R_s.out.below hb_)
      have R_x_ := Lib.hid (R_x.out.below hb_)
      have R_g_ := Lib.hid (R_g.out.below hb_)
      have B_arg0_ := Lib.hid (B_arg0.out.below hb_)
      have B_x_ := Lib.hid (B_x.out.below hb_)
      have HB_ := Lib.hid (HB.out.trans (hb_.mono HB.out.size))
      clear R_s R_x R_g B_arg0 B_x HB
      have R_s := R_s_
      have R_x := R_x_
      have R_g := R_g_
      have B_arg0 := B_arg0_
      have B_x := B_x_
      have HB := HB_
      clear R_s_ R_x_ R_g_ B_arg0_ B_x_ HB_
      clear hb_
      have c_arg0 := B_arg0.out.one.1
      go_wp2_with fail
      clear c_arg0
      refine (toRegion_any X0 len0 a0 cap0 _ (RW0.out.below HB.out) (by omega)).mono ?_
      rintro e w12_ ⟨g_v, rfl, ho_, hb_⟩
      have l_v : ∀ q, (Value.slice (some ⟨g_v, 0, none⟩) len0 len0).ownBlock = some q → _ := fun q hq => World.ownsRow.lt ho_ q hq
      have z_w12_ := hb_.size
      try simp only [World.size_alloc] at l_v z_w12_
      have R_s_ := Lib.hid (R_s.out.below hb_)
      have R_x_ := Lib.hid (R_x.out.below hb_)
      have R_g_ := Lib.hid (R_g.out.below hb_)
      have B_arg0_ := Lib.hid (B_arg0.out.below hb_)
      have B_x_ := Lib.hid (B_x.out.below hb_)
      have HB_ := Lib.hid (HB.out.trans (hb_.mono HB.out.size))
      clear R_s R_x R_g B_arg0 B_x HB
      have R_s := R_s_
      have R_x := R_x_
      have R_g := R_g_
      have B_arg0 := B_arg0_
      have B_x := B_x_
      have HB := HB_
      clear R_s_ R_x_ R_g_ B_arg0_ B_x_ HB_
      have R_v := Lib.hid ho_
      clear ho_ hb_
      go_wp2_with fail
      refine (HI.out _ _ _ R_v.out.rd (TZ.out.below HB.out)).mono ?_
      rintro e w13 ⟨a_h, c_h, rfl, ho_, hb_⟩
      have l_h : ∀ q, (Value.slice a_h m c_h).ownBlock = some q → _ := fun q hq => World.ownsRow.lt ho_ q hq
      have z_w13 := hb_.size
      try simp only [World.size_alloc] at l_h z_w13
      have R_s_ := Lib.hid (R_s.out.below hb_)
      have R_x_ := Lib.hid (R_x.out.below hb_)
      have R_g_ := Lib.hid (R_g.out.below hb_)
      have R_v_ := Lib.hid (R_v.out.below hb_)
      have B_arg0_ := Lib.hid (B_arg0.out.below hb_)
      have B_x_ := Lib.hid (B_x.out.below hb_)
      have HB_ := Lib.hid (HB.out.trans (hb_.mono HB.out.size))
      clear R_s R_x R_g R_v B_arg0 B_x HB
      have R_s := R_s_
      have R_x := R_x_
      have R_g := R_g_
      have R_v := R_v_
      have B_arg0 := B_arg0_
      have B_x := B_x_
      have HB := HB_
      clear R_s_ R_x_ R_g_ R_v_ B_arg0_ B_x_ HB_
      have R_h := Lib.hid ho_
      clear ho_ hb_
      go_wp2_with fail
      refine (eqIntS_b Y m a_h a_s c_h c_s _ R_h.out.rd R_s.out.rd (by omega)).mono ?_
      rintro e w14 ⟨rfl, hb_⟩
      have z_w14 := hb_.size
      try simp only [World.size_alloc] at z_w14
      have R_s_ := Lib.hid (R_s.out.below hb_)
      have R_x_ := Lib.hid (R_x.out.below hb_)
      have R_g_ := Lib.hid (R_g.out.below hb_)
      have R_v_ := Lib.hid (R_v.out.below hb_)
      have R_h_ := Lib.hid (R_h.out.below hb_)
      have B_arg0_ := Lib.hid (B_arg0.out.below hb_)
      have B_x_ := Lib.hid (B_x.out.below hb_)
      have HB_ := Lib.hid (HB.out.trans (hb_.mono HB.out.size))
      clear R_s R_x R_g R_v R_h B_arg0 B_x HB
      have R_s := R_s_
      have R_x := R_x_
      have R_g := R_g_
      have R_v := R_v_
      have R_h := R_h_
      have B_arg0 := B_arg0_
      have B_x := B_x_
      have HB := HB_
      clear R_s_ R_x_ R_g_ R_v_ R_h_ B_arg0_ B_x_ HB_
      clear hb_
      go_wp2_with fail
      refine (held1_b m a_g c_g _ R_g.out.rd (by omega)).mono ?_
      rintro e w15 ⟨rfl, hb_⟩
      have z_w15 := hb_.size
      try simp only [World.size_alloc] at z_w15
      have R_s_ := Lib.hid (R_s.out.below hb_)
      have R_x_ := Lib.hid (R_x.out.below hb_)
      have R_g_ := Lib.hid (R_g.out.below hb_)
      have R_v_ := Lib.hid (R_v.out.below hb_)
      have R_h_ := Lib.hid (R_h.out.below hb_)
      have B_arg0_ := Lib.hid (B_arg0.out.below hb_)
      have B_x_ := Lib.hid (B_x.out.below hb_)
      have HB_ := Lib.hid (HB.out.trans (hb_.mono HB.out.size))
      clear R_s R_x R_g R_v R_h B_arg0 B_x HB
      have R_s := R_s_
      have R_x := R_x_
      have R_g := R_g_
      have R_v := R_v_
      have R_h := R_h_
      have B_arg0 := B_arg0_
      have B_x := B_x_
      have HB := HB_
      clear R_s_ R_x_ R_g_ R_v_ R_h_ B_arg0_ B_x_ HB_
      clear hb_
      go_wp2_with fail
      go_ret
      exact ⟨rfl, HB.out⟩

/-! ### THE ROW's STEP: WRITTEN OUT: LEAVE IT -/
set_option maxRecDepth 100000 in
theorem lifted (os : Os) (started : os.Started) (H : Type) (enc : TypeId × Value → H) :
    ReturnsInHanded {} Tryd.checked os 3 .any (fun w args => (Rows.fnExactBoundsOfSpec.pre enc Tryd.prog Tryd.f3 Rows.fnExactBoundsOfRow.domain false w args ∧ laidMetH Tryd.prog laidL w) ∧ sizedMet enc Tryd.prog Tryd.f3 (OpenSpec.ofChange Rows.fnExactBoundsOfSpec) false w args)
      (Rows.fnExactBoundsOfSpec.post enc Tryd.prog Tryd.f3 false true false false) := by
  refine returnsInHanded_of_change_and (C := Tryd.checked) (X := fun w _ => laidMetH Tryd.prog laidL w) (fun _ _ _ hh h => h.of_heap hh) own started (by kernel_rfl) Tryd.func3
    (ChangeSpec.witness_shaped (enc := enc) (C := Tryd.checked) (os := os) (X := fun w _ => laidMetH Tryd.prog laidL w) false (World.doorLaid Tryd.prog 400 os) #[.agg #[.slice none 0 0]] 8 rfl (World.shaped_of_RefB (by kernel_rfl) (by kernel_rfl)) (by kernel_rfl) (by kernel_rfl) (by kernel_rfl) (door_met os _)) ?_
  intro W base args ds gs before hval0 hW _ hsz0 hL _
  have hval : ∀ (j : Nat) t v, Tryd.f3.params[j]? = some t → args[j]? = some v → Value.okWide Tryd.prog W .any base t v := hval0
  have hW' := hW
  obtain ⟨p, q, hA0, hV, rfl, hfz, hnd⟩ := hW
  have hA : DataW.TrodAll enc Tryd.prog W 0 (fun _ => true) true Tryd.f3.params.toList args.toList ds p := hA0
  rw [Tryd.params3] at hA hval
  obtain ⟨v0, vs0, d0, ds0, p0, q0, hargs, rfl, rfl, h0, r0⟩ := trodAll_cons hA
  obtain ⟨rfl, rfl, rfl⟩ := trodAll_nil r0
  obtain rfl : args = #[v0] := by cases args; simp_all
  obtain ⟨rfl, rfl⟩ := trodVars_none hV
  obtain ⟨a0, len0, cap0, rfl, hs0⟩ := reg_open Tryd.underlying24 (s := 22) rfl rfl (by kernel_rfl) (by kernel_rfl) Tryd.underlying22 Tryd.underlying3 (by kernel_rfl) (hval 0 24 v0 rfl rfl) h0
  have k0 := h0
  have lt0 : ∀ x ∈ p0, x.block < W.heap.size := by obtain ⟨m, hm⟩ := k0; exact DataW.trod_lt m _ _ _ hm
  obtain ⟨z0, w0⟩ : ∃ zs, IsRow .i64 W a0 len0 cap0 zs := by
    obtain ⟨fuel, xx, hf⟩ := hs0
    rcases open_ints Tryd.underlying22 Tryd.underlying3 (by kernel_rfl) hf with ⟨hcs, _⟩ | ⟨x, l, c, zs, hcs, _, hl, hm, hz, _, hcell, hwz⟩
    · simp [Value.cells] at hcs
      obtain ⟨rfl, rfl, rfl⟩ := hcs
      exact ⟨[], .inl ⟨rfl, rfl, rfl, rfl⟩⟩
    · simp [Value.cells] at hcs
      obtain ⟨rfl, rfl, rfl⟩ := hcs
      exact ⟨zs, .inr ⟨_, rfl, hl, hm, by simpa using hz, hcell, hwz⟩⟩
  clear hA0 hval0
  refine (walk a0 len0 cap0 z0 W w0 hL).mono fun e W' ⟨he, bel⟩ => ?_
  subst he
  exact ⟨_, rfl, _, _, _, [], _, [], hW', trodAll_mk1 (shut_bool Tryd.underlying4 _), (trodAll_cons_mk (Below.trod laidOut (by kernel_rfl) (of_decide_eq_true (by kernel_rfl)) k0 bel lt0) trodAll_mk0), rfl, bel.frame _, fun h => by cases h⟩

theorem over : Rows.fnExactBoundsOfRow.holds Tryd.pinned (OpenSpec.ofChange Rows.fnExactBoundsOfSpec) :=
  OpenClaim.holds_of_wide 3 Tryd.f3 rfl rfl rfl rfl rfl rfl rfl ⟨rfl, rfl, rfl, rfl, rfl⟩ rfl rfl rfl rfl rfl (by kernel_rfl) Tryd.func3 (by kernel_rfl)
    (of_decide_eq_true (by kernel_rfl)) (by unfold Func.isWrapper; first | (rw [if_pos (by decide +kernel)]; kernel_rfl) | (rw [if_neg (by decide +kernel)]; exact ⟨rfl, rfl⟩))
    (fun os started H enc _ => lifted os started H enc)

/-- The row's statement. -/
theorem proved : Rows.FnExactBoundsOfSaid :=
  over

/-- THE TIED CARD: the listed variables are those that the program's own text lays. -/
theorem card : Rows.FnExactBoundsOfCardSaid :=
  Claim7.holds_tied_plain_at .later [] [.data, .data] true (true, "4db517b36a28239cddba1b968689dc5ce87473428b073d6a10243849c2a2910c") false
    proved (fun _ h => by cases h) (by kernel_rfl) (fun _ h => by cases h) fnExactBoundsOf_row_tie rfl ⟨rfl, rfl⟩ (by kernel_rfl) rfl
    (fun f fn hf hfn => by
      obtain rfl : f = 3 := Option.some.inj ((show Tryd.prog.funcNamed "loop.example/g00884/laws.FnExactBoundsOf" = some 3 by kernel_rfl).symm.trans hf) |>.symm
      obtain rfl : fn = Tryd.f3 := (Option.some.inj (Tryd.func3.symm.trans hfn)).symm
      exact ⟨by kernel_rfl, fun j t ht => by
        rw [Tryd.params3] at ht
        have hm : t ∈ [24] := by
          have := Array.mem_of_getElem? ht
          first | simpa using this | (simp at this ⊢; omega) | (simp at this ⊢; rcases this with h | h <;> simp [h])
        have hall : ([24].all fun u => !Tryd.prog.wantsStandIn u) = true := by kernel_rfl
        exact (show Tryd.prog.wantsStandIn t = false by simpa using List.all_eq_true.1 hall t hm)⟩)
    (by kernel_rfl)
#print axioms card
end Go.Proofs.YtmmbhglmafnfpaaDoor.fnExactBoundsOf
