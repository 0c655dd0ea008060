/- FnParts: at every slice of bytes the law returns true: the parts of a division make up the shield and have no cell in common, and ordinaries lie on the shield. No condition. -/
import Derived.Test.YteekleibddjblaaRows
import Derived.WalkKit
import Derived.ProofKit
import Derived.OpenShut
import Derived.ShutString
import Derived.Test.YteekleibddjblaaC9G
import Derived.Deep.DeepCutAuto
import Derived.Deep.RegionHeld3
import Derived.ChangeOld
import Derived.Below
namespace Go.Proofs.Yteekleibddjblaa.fnParts
open Go.ChangeShapes Go.WideShapes Go.ChangeAt Go.RowKit
open Go.ChangeMaps (open_string shut_string)
set_option linter.unusedVariables false

theorem own : ownKnob Try.prog.godebug = none := by kernel_rfl
theorem laidOut : laidOutB Try.prog = true := by kernel_rfl

/-- WHAT THE WALK IS TOLD OF A SLICE OF INTEGERS THAT CAME IN: it is nil; or it leads to a row of 'cap' cells, the numbers 'zs' (the first 'len' are its elements, the rest its spare room), each fitting its kind. -/
def IsRow (k : IntKind) (w : World) (a : Option Addr) (len cap : Nat) (zs : List Int) : Prop :=
  (a = none ∧ len = 0 ∧ cap = 0 ∧ zs = []) ∨
  ∃ x, a = some x ∧ len ≤ cap ∧ cap ≤ maxLen ∧ zs.length = cap ∧ (∀ i, i < zs.length → w.cell? (x.add i) = some (.int k (zs.getD i 0))) ∧ ∀ n ∈ zs, (Lit.int k n).wf = true

/-! ### STEP 1: THE WALK: the Go text returns true, AND WRITES NOTHING THAT WAS THERE: 'Below w.heap.size w w'' (Derived/Below.lean: '.refl', '.alloc', '.drew', '.setCell' at a new block, '.trans'). Open each 'IsRow' by 'rcases' AHEAD of 'go_enter'; part every test ahead of the walk. -/
set_option maxHeartbeats 16000000 in
set_option maxRecDepth 100000 in
theorem walk (a0 : Option Addr) (len0 cap0 : Nat) (z0 : List Int) (w : World) (w0 : IsRow .u8 w a0 len0 cap0 z0) :
    Calls Try.prog 3 #[.slice a0 len0 cap0] w fun e w' => e = .returned (.bool true) ∧ Below w.heap.size w w' := by
  have hR : RdB w w.heap.size a0 len0 := by
    rcases w0 with ⟨rfl, rfl, rfl, rfl⟩ | ⟨⟨b, o, spot⟩, rfl, hl, hm, hz, hc, hwf⟩
    · intro h; omega
    · refine rdb_ofG (fun k hk => hc k (by omega)) (fun k hk => ?_)
      have e2 : z0.getD k 0 = z0[k]'(by omega) := by simp [List.getD, show k < z0.length by omega]
      have h2 := hwf (z0.getD k 0) (by rw [e2]; exact List.getElem_mem _)
      exact (by simpa [Lit.wf] using h2)
  clear w0
  have hB := rBig_any a0 len0 cap0 w
  by_cases hbig : (65536 : Int) < (len0 : Int)
  · have e1 : decide ((65536 : Int) < (len0 : Int)) = true := by simp; omega
    simp only [e1] at hB
    clear hR
    go_enter Try.func3, Try.ntmps3
    go_wp2_with (go_at_call 6; refine hB.mono ?_; rintro e w' ⟨rfl, rfl⟩)
    go_ret
    exact ⟨rfl, Below.refl _ _⟩
  · have e1 : decide ((65536 : Int) < (len0 : Int)) = false := by simp; omega
    simp only [e1] at hB
    have hn : len0 ≤ 65536 := by omega
    have cd := drawPart_any a0 len0 cap0 w hR hn
    have HO := Lib.hid (fun W (h : Below w.heap.size w W) => drawOrd_any a0 len0 cap0 W (hR.on h) hn)
    have HP := Lib.hid (fun W (h : Below w.heap.size w W) => drawShield_any a0 len0 cap0 W (hR.on h) hn)
    clear hR
    go_enter Try.func3, Try.ntmps3
    go_wp2_with (go_at_call 6; refine hB.mono ?_; rintro e w' ⟨rfl, rfl⟩)
    refine cd.mono ?_
    rintro e w0_ ⟨⟨d, p, rfl, hpl, hph⟩, hb0_⟩
    have HB := Lib.hid hb0_
    clear hB cd hb0_
    obtain ⟨X, n, ok, hX, CS, CI, hok⟩ : ∃ (X : List Int) (n : Nat) (ok : Bool), n ≤ 24 ∧ (∀ W, Calls Try.prog 9 #[.int .i64 d, .int .i64 p] W (AnsRB W X n ok)) ∧ (∀ W, Calls Try.prog 8 #[.int .i64 d, .int .i64 p] W (AnsRB W X n ok)) ∧ (ok = true → n = 24 ∧ ((0 ≤ d ∧ d ≤ 7) ∧ (0 ≤ p ∧ p ≤ 1)) ∧ X = rowsOfR (regN (fun i j => (firstB d i j == (p == 0))))) := by
      by_cases h : (0 ≤ d ∧ d ≤ 7) ∧ (0 ≤ p ∧ p ≤ 1)
      · exact ⟨_, 24, true, by omega, fun W => part_spec d p W h.1.1 h.1.2 h.2.1 h.2.2, fun W => part_impl d p W h.1.1 h.1.2 h.2.1 h.2.2, fun _ => ⟨rfl, h, rfl⟩⟩
      · exact ⟨[], 0, false, by omega, fun W => part_spec_no d p W h, fun W => part_impl_no d p W h, fun h => by cases h⟩
    have eok : (ok != ok) = false := by simp
    have HS := Lib.hid CS
    have HI := Lib.hid CI
    have HOK := Lib.hid hok
    clear CS CI hok
    go_wp2_with fail
    refine (HI.out _).mono ?_
    rintro e w1 ⟨a_a, c_a, rfl, ho_, hb_⟩
    have z_w1 := hb_.size
    try simp only [World.size_alloc] at z_w1
    have HB_ := Lib.hid (HB.out.trans (hb_.mono HB.out.size))
    clear  HB
    have HB := HB_
    clear  HB_
    have R_a := Lib.hid ho_.rd
    clear ho_ hb_
    have R_a_ := Lib.hid (R_a.out.below ((Below.refl _ w1).alloc (Nat.le_refl _) (.cells #[.slice a_a n c_a] 28 (0, 0))))
    have HB_ := Lib.hid (HB.out.alloc HB.out.size (.cells #[.slice a_a n c_a] 28 (0, 0)))
    clear R_a HB
    have R_a := R_a_
    have HB := HB_
    clear R_a_ HB_
    have B_a := Lib.hid (BoxF.new w1 [.slice a_a n c_a] 28)
    go_wp2_with fail
    refine (HS.out _).mono ?_
    rintro e w2 ⟨a_s, c_s, rfl, ho_, hb_⟩
    have z_w2 := hb_.size
    try simp only [World.size_alloc] at z_w2
    have R_a_ := Lib.hid (R_a.out.below hb_)
    have B_a_ := Lib.hid (B_a.out.below hb_)
    have HB_ := Lib.hid (HB.out.trans (hb_.mono HB.out.size))
    clear R_a B_a HB
    have R_a := R_a_
    have B_a := B_a_
    have HB := HB_
    clear R_a_ B_a_ HB_
    have R_s := Lib.hid ho_.rd
    clear ho_ hb_
    have R_a_ := Lib.hid (R_a.out.below ((Below.refl _ w2).alloc (Nat.le_refl _) (.cells #[.slice a_s n c_s] 28 (0, 0))))
    have R_s_ := Lib.hid (R_s.out.below ((Below.refl _ w2).alloc (Nat.le_refl _) (.cells #[.slice a_s n c_s] 28 (0, 0))))
    have B_a_ := Lib.hid (B_a.out.alloc (.cells #[.slice a_s n c_s] 28 (0, 0)))
    have HB_ := Lib.hid (HB.out.alloc HB.out.size (.cells #[.slice a_s n c_s] 28 (0, 0)))
    clear R_a R_s B_a HB
    have R_a := R_a_
    have R_s := R_s_
    have B_a := B_a_
    have HB := HB_
    clear R_a_ R_s_ B_a_ HB_
    have B_s := Lib.hid (BoxF.new w2 [.slice a_s n c_s] 28)
    have fx_a := B_a.out.one.1
    have fx_s := B_s.out.one.1
    go_wp2_with fail
    clear fx_a fx_s
    refine (rInts_b X n a_a a_s c_a c_s _ R_a.out R_s.out (by omega)).mono ?_
    rintro e w3 ⟨rfl, hb_⟩
    have z_w3 := hb_.size
    try simp only [World.size_alloc] at z_w3
    have R_a_ := Lib.hid (R_a.out.below hb_)
    have R_s_ := Lib.hid (R_s.out.below hb_)
    have B_a_ := Lib.hid (B_a.out.below hb_)
    have B_s_ := Lib.hid (B_s.out.below hb_)
    have HB_ := Lib.hid (HB.out.trans (hb_.mono HB.out.size))
    clear R_a R_s B_a B_s HB
    have R_a := R_a_
    have R_s := R_s_
    have B_a := B_a_
    have B_s := B_s_
    have HB := HB_
    clear R_a_ R_s_ B_a_ B_s_ HB_
    clear hb_
    have fx_a := B_a.out.one.1
    go_upto_if 54 with fail
    go_cut [] (fun wx => Below w.heap.size w wx)
    case first =>
      cases ok
      · have HB2 := HB.out
        clear HOK
        go_wp2_with fail
        go_meet
        case rel => exact HB2
      · obtain ⟨h24, hdp, hXP⟩ := HOK.out rfl
        subst h24
        subst hXP
        have hq : 0 ≤ (1 - p) ∧ (1 - p) ≤ 1 := by omega
        have hPQ : ∀ x y : Nat, (fun i j => (firstB d i j == ((1 - p) == 0))) x y = !(fun i j => (firstB d i j == (p == 0))) x y := fun x y => by
          have hp : p = 0 ∨ p = 1 := by omega
          show (firstB d x y == ((1 - p) == 0)) = !(firstB d x y == (p == 0))
          rcases hp with rfl | rfl <;> cases firstB d x y <;> decide
        have HQ := Lib.hid (fun W => part_impl d (1 - p) W hdp.1.1 hdp.1.2 hq.1 hq.2)
        have HSH0 := fun W => (shield_impl W).mono (R' := fun e w' => ∃ g : Nat, e = .returned (.agg #[.slice (some ⟨g, 0, none⟩) 24 24]) ∧ RdI w' (some ⟨g, 0, none⟩) 24 (rowsOfR shN) ∧ Below W.heap.size W w') (fun e w' ⟨g, h1, h2, h3⟩ => ⟨g, h1, h2.rd, h3⟩)
        obtain ⟨U, V, GU, GI, HSH, GV, GZ⟩ : ∃ U V : List Int, RowKit.Hid (combL 1 (rowsOfR (regN (fun i j => (firstB d i j == (p == 0))))) (rowsOfR (regN (fun i j => (firstB d i j == ((1 - p) == 0))))) = U) ∧ RowKit.Hid (combL 2 (rowsOfR (regN (fun i j => (firstB d i j == (p == 0))))) (rowsOfR (regN (fun i j => (firstB d i j == ((1 - p) == 0))))) = V) ∧ RowKit.Hid (∀ W : World, Calls Try.prog 13 #[] W (fun e w' => ∃ g : Nat, e = .returned (.agg #[.slice (some ⟨g, 0, none⟩) 24 24]) ∧ RdI w' (some ⟨g, 0, none⟩) 24 U ∧ Below W.heap.size W w')) ∧ RowKit.Hid (goodR V = true) ∧ RowKit.Hid (areaTo V 24 = 0) := ⟨rowsOfR shN, rowsOfR (fun _ => 0), Lib.hid (comb_union _ _ hPQ), Lib.hid (comb_inter _ _ hPQ), Lib.hid HSH0, Lib.hid good_zero, Lib.hid (area_zero 24 (Nat.le_refl _))⟩
        clear HSH0
        have GA := Lib.hid (good_reg (fun i j => (firstB d i j == (p == 0))))
        have GB := Lib.hid (good_reg (fun i j => (firstB d i j == ((1 - p) == 0))))
        have hpw : IntKind.i64.wrap (1 - p) = 1 - p := by rw [IntKind.wrap_i64]; omega
        generalize rowsOfR (regN (fun i j => (firstB d i j == (p == 0)))) = FA at *
        generalize rowsOfR (regN (fun i j => (firstB d i j == ((1 - p) == 0)))) = FB at *
        clear hPQ hX HOK hdp hq eok
        have fx_a := B_a.out.one.1
        go_wp2_with fail
        clear fx_a
        refine (HQ.out _).mono ?_
        rintro e w4 ⟨a_b, c_b, rfl, ho_, hb_⟩
        have z_w4 := hb_.size
        try simp only [World.size_alloc] at z_w4
        have R_a_ := Lib.hid (R_a.out.below hb_)
        have R_s_ := Lib.hid (R_s.out.below hb_)
        have B_a_ := Lib.hid (B_a.out.below hb_)
        have B_s_ := Lib.hid (B_s.out.below hb_)
        have HB_ := Lib.hid (HB.out.trans (hb_.mono HB.out.size))
        clear R_a R_s B_a B_s HB
        have R_a := R_a_
        have R_s := R_s_
        have B_a := B_a_
        have B_s := B_s_
        have HB := HB_
        clear R_a_ R_s_ B_a_ B_s_ HB_
        have R_b := Lib.hid ho_.rd
        clear ho_ hb_
        have R_a_ := Lib.hid (R_a.out.below ((Below.refl _ w4).alloc (Nat.le_refl _) (.cells #[.slice a_b 24 c_b] 28 (0, 0))))
        have R_s_ := Lib.hid (R_s.out.below ((Below.refl _ w4).alloc (Nat.le_refl _) (.cells #[.slice a_b 24 c_b] 28 (0, 0))))
        have R_b_ := Lib.hid (R_b.out.below ((Below.refl _ w4).alloc (Nat.le_refl _) (.cells #[.slice a_b 24 c_b] 28 (0, 0))))
        have B_a_ := Lib.hid (B_a.out.alloc (.cells #[.slice a_b 24 c_b] 28 (0, 0)))
        have B_s_ := Lib.hid (B_s.out.alloc (.cells #[.slice a_b 24 c_b] 28 (0, 0)))
        have HB_ := Lib.hid (HB.out.alloc HB.out.size (.cells #[.slice a_b 24 c_b] 28 (0, 0)))
        clear R_a R_s R_b B_a B_s HB
        have R_a := R_a_
        have R_s := R_s_
        have R_b := R_b_
        have B_a := B_a_
        have B_s := B_s_
        have HB := HB_
        clear R_a_ R_s_ R_b_ B_a_ B_s_ HB_
        have B_b := Lib.hid (BoxF.new w4 [.slice a_b 24 c_b] 28)
        have HU := Lib.hid (union_named FA FB U GA GB GU)
        have HV := Lib.hid (inter_named FA FB V GA GB GI)
        have fx_a := B_a.out.one.1
        have fx_b := B_b.out.one.1
        go_wp2_with fail
        clear fx_a fx_b
        refine (HU.out _ _ _ _ _ R_a.out R_b.out).mono ?_
        rintro e w5 ⟨a_u, c_u, rfl, ho_, hb_⟩
        have z_w5 := hb_.size
        try simp only [World.size_alloc] at z_w5
        have R_a_ := Lib.hid (R_a.out.below hb_)
        have R_s_ := Lib.hid (R_s.out.below hb_)
        have R_b_ := Lib.hid (R_b.out.below hb_)
        have B_a_ := Lib.hid (B_a.out.below hb_)
        have B_s_ := Lib.hid (B_s.out.below hb_)
        have B_b_ := Lib.hid (B_b.out.below hb_)
        have HB_ := Lib.hid (HB.out.trans (hb_.mono HB.out.size))
        clear R_a R_s R_b B_a B_s B_b HB
        have R_a := R_a_
        have R_s := R_s_
        have R_b := R_b_
        have B_a := B_a_
        have B_s := B_s_
        have B_b := B_b_
        have HB := HB_
        clear R_a_ R_s_ R_b_ B_a_ B_s_ B_b_ HB_
        have R_u := Lib.hid ho_.rd
        clear ho_ hb_
        have R_a_ := Lib.hid (R_a.out.below ((Below.refl _ w5).alloc (Nat.le_refl _) (.cells #[.slice a_u 24 c_u] 28 (0, 0))))
        have R_s_ := Lib.hid (R_s.out.below ((Below.refl _ w5).alloc (Nat.le_refl _) (.cells #[.slice a_u 24 c_u] 28 (0, 0))))
        have R_b_ := Lib.hid (R_b.out.below ((Below.refl _ w5).alloc (Nat.le_refl _) (.cells #[.slice a_u 24 c_u] 28 (0, 0))))
        have R_u_ := Lib.hid (R_u.out.below ((Below.refl _ w5).alloc (Nat.le_refl _) (.cells #[.slice a_u 24 c_u] 28 (0, 0))))
        have B_a_ := Lib.hid (B_a.out.alloc (.cells #[.slice a_u 24 c_u] 28 (0, 0)))
        have B_s_ := Lib.hid (B_s.out.alloc (.cells #[.slice a_u 24 c_u] 28 (0, 0)))
        have B_b_ := Lib.hid (B_b.out.alloc (.cells #[.slice a_u 24 c_u] 28 (0, 0)))
        have HB_ := Lib.hid (HB.out.alloc HB.out.size (.cells #[.slice a_u 24 c_u] 28 (0, 0)))
        clear R_a R_s R_b R_u B_a B_s B_b HB
        have R_a := R_a_
        have R_s := R_s_
        have R_b := R_b_
        have R_u := R_u_
        have B_a := B_a_
        have B_s := B_s_
        have B_b := B_b_
        have HB := HB_
        clear R_a_ R_s_ R_b_ R_u_ B_a_ B_s_ B_b_ HB_
        have B_u := Lib.hid (BoxF.new w5 [.slice a_u 24 c_u] 28)
        have fx_a := B_a.out.one.1
        have fx_b := B_b.out.one.1
        go_wp2_with fail
        clear fx_a fx_b
        refine (HV.out _ _ _ _ _ R_a.out R_b.out).mono ?_
        rintro e w6 ⟨a_v, c_v, rfl, ho_, hb_⟩
        have z_w6 := hb_.size
        try simp only [World.size_alloc] at z_w6
        have R_a_ := Lib.hid (R_a.out.below hb_)
        have R_s_ := Lib.hid (R_s.out.below hb_)
        have R_b_ := Lib.hid (R_b.out.below hb_)
        have R_u_ := Lib.hid (R_u.out.below hb_)
        have B_a_ := Lib.hid (B_a.out.below hb_)
        have B_s_ := Lib.hid (B_s.out.below hb_)
        have B_b_ := Lib.hid (B_b.out.below hb_)
        have B_u_ := Lib.hid (B_u.out.below hb_)
        have HB_ := Lib.hid (HB.out.trans (hb_.mono HB.out.size))
        clear R_a R_s R_b R_u B_a B_s B_b B_u HB
        have R_a := R_a_
        have R_s := R_s_
        have R_b := R_b_
        have R_u := R_u_
        have B_a := B_a_
        have B_s := B_s_
        have B_b := B_b_
        have B_u := B_u_
        have HB := HB_
        clear R_a_ R_s_ R_b_ R_u_ B_a_ B_s_ B_b_ B_u_ HB_
        have R_v := Lib.hid ho_.rd
        clear ho_ hb_
        have R_a_ := Lib.hid (R_a.out.below ((Below.refl _ w6).alloc (Nat.le_refl _) (.cells #[.slice a_v 24 c_v] 28 (0, 0))))
        have R_s_ := Lib.hid (R_s.out.below ((Below.refl _ w6).alloc (Nat.le_refl _) (.cells #[.slice a_v 24 c_v] 28 (0, 0))))
        have R_b_ := Lib.hid (R_b.out.below ((Below.refl _ w6).alloc (Nat.le_refl _) (.cells #[.slice a_v 24 c_v] 28 (0, 0))))
        have R_u_ := Lib.hid (R_u.out.below ((Below.refl _ w6).alloc (Nat.le_refl _) (.cells #[.slice a_v 24 c_v] 28 (0, 0))))
        have R_v_ := Lib.hid (R_v.out.below ((Below.refl _ w6).alloc (Nat.le_refl _) (.cells #[.slice a_v 24 c_v] 28 (0, 0))))
        have B_a_ := Lib.hid (B_a.out.alloc (.cells #[.slice a_v 24 c_v] 28 (0, 0)))
        have B_s_ := Lib.hid (B_s.out.alloc (.cells #[.slice a_v 24 c_v] 28 (0, 0)))
        have B_b_ := Lib.hid (B_b.out.alloc (.cells #[.slice a_v 24 c_v] 28 (0, 0)))
        have B_u_ := Lib.hid (B_u.out.alloc (.cells #[.slice a_v 24 c_v] 28 (0, 0)))
        have HB_ := Lib.hid (HB.out.alloc HB.out.size (.cells #[.slice a_v 24 c_v] 28 (0, 0)))
        clear R_a R_s R_b R_u R_v B_a B_s B_b B_u HB
        have R_a := R_a_
        have R_s := R_s_
        have R_b := R_b_
        have R_u := R_u_
        have R_v := R_v_
        have B_a := B_a_
        have B_s := B_s_
        have B_b := B_b_
        have B_u := B_u_
        have HB := HB_
        clear R_a_ R_s_ R_b_ R_u_ R_v_ B_a_ B_s_ B_b_ B_u_ HB_
        have B_v := Lib.hid (BoxF.new w6 [.slice a_v 24 c_v] 28)
        have HAR := Lib.hid (area_named V 0 GV (Lib.hid (by rw [GZ.out]; rfl)))
        have fx_v := B_v.out.one.1
        go_wp2_with fail
        clear fx_v
        refine (HAR.out _ _ _ R_v.out).mono ?_
        rintro e w7 ⟨rfl, hb_⟩
        have z_w7 := hb_.size
        try simp only [World.size_alloc] at z_w7
        have R_a_ := Lib.hid (R_a.out.below hb_)
        have R_s_ := Lib.hid (R_s.out.below hb_)
        have R_b_ := Lib.hid (R_b.out.below hb_)
        have R_u_ := Lib.hid (R_u.out.below hb_)
        have R_v_ := Lib.hid (R_v.out.below hb_)
        have B_a_ := Lib.hid (B_a.out.below hb_)
        have B_s_ := Lib.hid (B_s.out.below hb_)
        have B_b_ := Lib.hid (B_b.out.below hb_)
        have B_u_ := Lib.hid (B_u.out.below hb_)
        have B_v_ := Lib.hid (B_v.out.below hb_)
        have HB_ := Lib.hid (HB.out.trans (hb_.mono HB.out.size))
        clear R_a R_s R_b R_u R_v B_a B_s B_b B_u B_v HB
        have R_a := R_a_
        have R_s := R_s_
        have R_b := R_b_
        have R_u := R_u_
        have R_v := R_v_
        have B_a := B_a_
        have B_s := B_s_
        have B_b := B_b_
        have B_u := B_u_
        have B_v := B_v_
        have HB := HB_
        clear R_a_ R_s_ R_b_ R_u_ R_v_ B_a_ B_s_ B_b_ B_u_ B_v_ HB_
        clear hb_
        go_upto_region 13 with fail
        go_cut [104] (fun sl wx => sl = .bool false ∧ Below w7.heap.size w7 wx)
        case first =>
          refine wp_region_noPanic ?_
          have cu_ := B_u.out.one.1
          have hul := B_u.out.lt
          refine wp_region_held_drew (S := fun W => W.cell? ⟨w5.heap.size, 0, none⟩ = some (.slice a_u 24 c_u) ∧ Below w7.heap.size w7 W) (by kernel_rfl) ⟨cu_, below_drewN' (Below.refl _ w7) 1⟩ (fun hHeld => ?_)
          clear cu_
          generalize w7.drew = Wd at *
          refine wpAnyH_take (i := 0) (oi := { dst := some 79, op := _, type := _, pos := _, after := _, guard := _ }) (v := .bool true) rfl (by kernel_rfl) (by kernel_rfl) (by kernel_rfl) (fun _ _ _ h => h) (Or.inl ⟨by rfl, ?_⟩) hHeld ?_
          · (intro w_ hSw; clear hSw; go_simp; first | done | with_reducible rfl | rfl | (intro h_; omega) | (simp only [IntKind.wrap, IntKind.bits, IntKind.signed]; omega) | (simp [IntKind.wrap, IntKind.bits, IntKind.signed]; omega))
          set_option linter.unusedSimpArgs false in try simp only [Act.put, List.setIfInBounds_toArray, List.set_cons_zero, List.set_cons_succ]
          refine wpAnyH_take (i := 1) (oi := { dst := some 80, op := _, type := _, pos := _, after := _, guard := _ }) (v := .bool false) rfl (by kernel_rfl) (by kernel_rfl) (by kernel_rfl) (fun _ _ _ h => h) (Or.inl ⟨by rfl, ?_⟩) hHeld ?_
          · (intro w_ hSw; clear hSw; go_simp; first | done | with_reducible rfl | rfl | (intro h_; omega) | (simp only [IntKind.wrap, IntKind.bits, IntKind.signed]; omega) | (simp [IntKind.wrap, IntKind.bits, IntKind.signed]; omega))
          set_option linter.unusedSimpArgs false in try simp only [Act.put, List.setIfInBounds_toArray, List.set_cons_zero, List.set_cons_succ]
          refine wpAnyH_take (i := 2) (oi := { dst := some 81, op := _, type := _, pos := _, after := _, guard := _ }) (v := .bool false) rfl (by kernel_rfl) (by kernel_rfl) (by kernel_rfl) (fun _ _ _ h => h) (Or.inl ⟨by rfl, ?_⟩) hHeld ?_
          · (intro w_ hSw; clear hSw; go_simp; first | done | with_reducible rfl | rfl | (intro h_; omega) | (simp only [IntKind.wrap, IntKind.bits, IntKind.signed]; omega) | (simp [IntKind.wrap, IntKind.bits, IntKind.signed]; omega))
          set_option linter.unusedSimpArgs false in try simp only [Act.put, List.setIfInBounds_toArray, List.set_cons_zero, List.set_cons_succ]
          refine wpAnyH_take (i := 3) (oi := { dst := some 82, op := _, type := _, pos := _, after := _, guard := _ }) (v := .bool true) rfl (by kernel_rfl) (by kernel_rfl) (by kernel_rfl) (fun _ _ _ h => h) (Or.inl ⟨by rfl, ?_⟩) hHeld ?_
          · (intro w_ hSw; clear hSw; go_simp; first | done | with_reducible rfl | rfl | (intro h_; omega) | (simp only [IntKind.wrap, IntKind.bits, IntKind.signed]; omega) | (simp [IntKind.wrap, IntKind.bits, IntKind.signed]; omega))
          set_option linter.unusedSimpArgs false in try simp only [Act.put, List.setIfInBounds_toArray, List.set_cons_zero, List.set_cons_succ]
          refine wpAnyH_take (i := 4) (oi := { dst := some 83, op := _, type := _, pos := _, after := _, guard := _ }) (v := .bool false) rfl (by kernel_rfl) (by kernel_rfl) (by kernel_rfl) (fun _ _ _ h => h) (Or.inl ⟨by rfl, ?_⟩) hHeld ?_
          · (intro w_ hSw; clear hSw; go_simp; first | done | with_reducible rfl | rfl | (intro h_; omega) | (simp only [IntKind.wrap, IntKind.bits, IntKind.signed]; omega) | (simp [IntKind.wrap, IntKind.bits, IntKind.signed]; omega))
          set_option linter.unusedSimpArgs false in try simp only [Act.put, List.setIfInBounds_toArray, List.set_cons_zero, List.set_cons_succ]
          refine wpAnyH_take (i := 5) (oi := { dst := some 84, op := _, type := _, pos := _, after := _, guard := _ }) (v := .bool false) rfl (by kernel_rfl) (by kernel_rfl) (by kernel_rfl) (fun _ _ _ h => h) (Or.inl ⟨by rfl, ?_⟩) hHeld ?_
          · (intro w_ hSw; clear hSw; go_simp; first | done | with_reducible rfl | rfl | (intro h_; omega) | (simp only [IntKind.wrap, IntKind.bits, IntKind.signed]; omega) | (simp [IntKind.wrap, IntKind.bits, IntKind.signed]; omega))
          set_option linter.unusedSimpArgs false in try simp only [Act.put, List.setIfInBounds_toArray, List.set_cons_zero, List.set_cons_succ]
          refine wpAnyH_take (i := 6) (oi := { dst := some 85, op := _, type := _, pos := _, after := _, guard := _ }) (v := .bool false) rfl (by kernel_rfl) (by kernel_rfl) (by kernel_rfl) (fun _ _ _ h => h) (Or.inl ⟨by rfl, ?_⟩) hHeld ?_
          · (intro w_ hSw; clear hSw; go_simp; first | done | with_reducible rfl | rfl | (intro h_; omega) | (simp only [IntKind.wrap, IntKind.bits, IntKind.signed]; omega) | (simp [IntKind.wrap, IntKind.bits, IntKind.signed]; omega))
          set_option linter.unusedSimpArgs false in try simp only [Act.put, List.setIfInBounds_toArray, List.set_cons_zero, List.set_cons_succ]
          refine wpAnyH_take (i := 7) (oi := { dst := some 86, op := _, type := _, pos := _, after := _, guard := _ }) (v := .bool true) rfl (by kernel_rfl) (by kernel_rfl) (by kernel_rfl) (fun _ _ _ h => h) (Or.inl ⟨by rfl, ?_⟩) hHeld ?_
          · (intro w_ hSw; clear hSw; go_simp; first | done | with_reducible rfl | rfl | (intro h_; omega) | (simp only [IntKind.wrap, IntKind.bits, IntKind.signed]; omega) | (simp [IntKind.wrap, IntKind.bits, IntKind.signed]; omega))
          set_option linter.unusedSimpArgs false in try simp only [Act.put, List.setIfInBounds_toArray, List.set_cons_zero, List.set_cons_succ]
          refine wpAnyH_take (i := 8) (oi := { dst := some 87, op := _, type := _, pos := _, after := _, guard := _ }) (v := .bool false) rfl (by kernel_rfl) (by kernel_rfl) (by kernel_rfl) (fun _ _ _ h => h) (Or.inl ⟨by rfl, ?_⟩) hHeld ?_
          · (intro w_ hSw; clear hSw; go_simp; first | done | with_reducible rfl | rfl | (intro h_; omega) | (simp only [IntKind.wrap, IntKind.bits, IntKind.signed]; omega) | (simp [IntKind.wrap, IntKind.bits, IntKind.signed]; omega))
          set_option linter.unusedSimpArgs false in try simp only [Act.put, List.setIfInBounds_toArray, List.set_cons_zero, List.set_cons_succ]
          refine wpAnyH_take (i := 9) (oi := { dst := some 88, op := _, type := _, pos := _, after := _, guard := _ }) (v := .bool false) rfl (by kernel_rfl) (by kernel_rfl) (by kernel_rfl) (fun _ _ _ h => h) (Or.inl ⟨by rfl, ?_⟩) hHeld ?_
          · (intro w_ hSw; clear hSw; go_simp; first | done | with_reducible rfl | rfl | (intro h_; omega) | (simp only [IntKind.wrap, IntKind.bits, IntKind.signed]; omega) | (simp [IntKind.wrap, IntKind.bits, IntKind.signed]; omega))
          set_option linter.unusedSimpArgs false in try simp only [Act.put, List.setIfInBounds_toArray, List.set_cons_zero, List.set_cons_succ]
          refine wpAnyH_take (i := 10) (oi := { dst := some 89, op := _, type := _, pos := _, after := _, guard := _ }) (v := .bool false) rfl (by kernel_rfl) (by kernel_rfl) (by kernel_rfl) (fun _ _ _ h => h) (Or.inl ⟨by rfl, ?_⟩) hHeld ?_
          · (intro w_ hSw; clear hSw; go_simp; first | done | with_reducible rfl | rfl | (intro h_; omega) | (simp only [IntKind.wrap, IntKind.bits, IntKind.signed]; omega) | (simp [IntKind.wrap, IntKind.bits, IntKind.signed]; omega))
          set_option linter.unusedSimpArgs false in try simp only [Act.put, List.setIfInBounds_toArray, List.set_cons_zero, List.set_cons_succ]
          refine wpAnyH_take (i := 11) (oi := { dst := some 90, op := _, type := _, pos := _, after := _, guard := _ }) (v := .bool true) rfl (by kernel_rfl) (by kernel_rfl) (by kernel_rfl) (fun _ _ _ h => h) (Or.inl ⟨by rfl, ?_⟩) hHeld ?_
          · (intro w_ hSw; clear hSw; go_simp; first | done | with_reducible rfl | rfl | (intro h_; omega) | (simp only [IntKind.wrap, IntKind.bits, IntKind.signed]; omega) | (simp [IntKind.wrap, IntKind.bits, IntKind.signed]; omega))
          set_option linter.unusedSimpArgs false in try simp only [Act.put, List.setIfInBounds_toArray, List.set_cons_zero, List.set_cons_succ]
          refine wpAnyH_take (i := 12) (oi := { dst := some 91, op := _, type := _, pos := _, after := _, guard := _ }) (v := .bool false) rfl (by kernel_rfl) (by kernel_rfl) (by kernel_rfl) (fun _ _ _ h => h) (Or.inl ⟨by rfl, ?_⟩) hHeld ?_
          · (intro w_ hSw; clear hSw; go_simp; first | done | with_reducible rfl | rfl | (intro h_; omega) | (simp only [IntKind.wrap, IntKind.bits, IntKind.signed]; omega) | (simp [IntKind.wrap, IntKind.bits, IntKind.signed]; omega))
          set_option linter.unusedSimpArgs false in try simp only [Act.put, List.setIfInBounds_toArray, List.set_cons_zero, List.set_cons_succ]
          refine wpAnyH_take (i := 13) (oi := { dst := some 92, op := _, type := _, pos := _, after := _, guard := _ }) (v := .bool false) rfl (by kernel_rfl) (by kernel_rfl) (by kernel_rfl) (fun _ _ _ h => h) (Or.inl ⟨by rfl, ?_⟩) hHeld ?_
          · (intro w_ hSw; clear hSw; go_simp; first | done | with_reducible rfl | rfl | (intro h_; omega) | (simp only [IntKind.wrap, IntKind.bits, IntKind.signed]; omega) | (simp [IntKind.wrap, IntKind.bits, IntKind.signed]; omega))
          set_option linter.unusedSimpArgs false in try simp only [Act.put, List.setIfInBounds_toArray, List.set_cons_zero, List.set_cons_succ]
          refine wpAnyH_take (i := 14) (oi := { dst := some 93, op := _, type := _, pos := _, after := _, guard := _ }) (v := .bool false) rfl (by kernel_rfl) (by kernel_rfl) (by kernel_rfl) (fun _ _ _ h => h) (Or.inl ⟨by rfl, ?_⟩) hHeld ?_
          · (intro w_ hSw; clear hSw; go_simp; first | done | with_reducible rfl | rfl | (intro h_; omega) | (simp only [IntKind.wrap, IntKind.bits, IntKind.signed]; omega) | (simp [IntKind.wrap, IntKind.bits, IntKind.signed]; omega))
          set_option linter.unusedSimpArgs false in try simp only [Act.put, List.setIfInBounds_toArray, List.set_cons_zero, List.set_cons_succ]
          refine wpAnyH_take (i := 15) (oi := { dst := some 94, op := _, type := _, pos := _, after := _, guard := _ }) (v := .int .i64 0) rfl (by kernel_rfl) (by kernel_rfl) (by kernel_rfl) (fun _ _ _ h => h) (Or.inl ⟨by rfl, ?_⟩) hHeld ?_
          · (intro w_ hSw; clear hSw; go_simp; first | done | with_reducible rfl | rfl | (intro h_; omega) | (simp only [IntKind.wrap, IntKind.bits, IntKind.signed]; omega) | (simp [IntKind.wrap, IntKind.bits, IntKind.signed]; omega))
          set_option linter.unusedSimpArgs false in try simp only [Act.put, List.setIfInBounds_toArray, List.set_cons_zero, List.set_cons_succ]
          refine wpAnyH_take (i := 16) (oi := { dst := some 95, op := _, type := _, pos := _, after := _, guard := _ }) (v := .bool false) rfl (by kernel_rfl) (by kernel_rfl) (by kernel_rfl) (fun _ _ _ h => h) (Or.inl ⟨by rfl, ?_⟩) hHeld ?_
          · (intro w_ hSw; clear hSw; go_simp; first | done | with_reducible rfl | rfl | (intro h_; omega) | (simp only [IntKind.wrap, IntKind.bits, IntKind.signed]; omega) | (simp [IntKind.wrap, IntKind.bits, IntKind.signed]; omega))
          set_option linter.unusedSimpArgs false in try simp only [Act.put, List.setIfInBounds_toArray, List.set_cons_zero, List.set_cons_succ]
          refine wpAnyH_take (i := 17) (oi := { dst := some 96, op := _, type := _, pos := _, after := _, guard := _ }) (v := .bool false) rfl (by kernel_rfl) (by kernel_rfl) (by kernel_rfl) (fun _ _ _ h => h) (Or.inl ⟨by rfl, ?_⟩) hHeld ?_
          · (intro w_ hSw; clear hSw; go_simp; first | done | with_reducible rfl | rfl | (intro h_; omega) | (simp only [IntKind.wrap, IntKind.bits, IntKind.signed]; omega) | (simp [IntKind.wrap, IntKind.bits, IntKind.signed]; omega))
          set_option linter.unusedSimpArgs false in try simp only [Act.put, List.setIfInBounds_toArray, List.set_cons_zero, List.set_cons_succ]
          refine wpAnyH_take (i := 18) (oi := { dst := some 97, op := _, type := _, pos := _, after := _, guard := _ }) (v := .bool false) rfl (by kernel_rfl) (by kernel_rfl) (by kernel_rfl) (fun _ _ _ h => h) (Or.inl ⟨by rfl, ?_⟩) hHeld ?_
          · (intro w_ hSw; clear hSw; go_simp; first | done | with_reducible rfl | rfl | (intro h_; omega) | (simp only [IntKind.wrap, IntKind.bits, IntKind.signed]; omega) | (simp [IntKind.wrap, IntKind.bits, IntKind.signed]; omega))
          set_option linter.unusedSimpArgs false in try simp only [Act.put, List.setIfInBounds_toArray, List.set_cons_zero, List.set_cons_succ]
          refine wpAnyH_take (i := 19) (oi := { dst := some 98, op := _, type := _, pos := _, after := _, guard := _ }) (v := .pointer (some ⟨w5.heap.size, 0, none⟩)) rfl (by kernel_rfl) (by kernel_rfl) (by kernel_rfl) (fun _ _ _ h => h) (Or.inl ⟨by rfl, ?_⟩) hHeld ?_
          · (intro w_ hSw; clear hSw; go_simp; first | done | with_reducible rfl | rfl | (intro h_; omega) | (simp only [IntKind.wrap, IntKind.bits, IntKind.signed]; omega) | (simp [IntKind.wrap, IntKind.bits, IntKind.signed]; omega))
          set_option linter.unusedSimpArgs false in try simp only [Act.put, List.setIfInBounds_toArray, List.set_cons_zero, List.set_cons_succ]
          refine wpAnyH_take (i := 20) (oi := { dst := some 99, op := _, type := _, pos := _, after := _, guard := _ }) (v := .slice a_u 24 c_u) rfl (by kernel_rfl) (by kernel_rfl) (by kernel_rfl) (fun _ _ _ h => h) (Or.inl ⟨by rfl, ?_⟩) hHeld ?_
          · (intro w_ hSw; have c_ := hSw.1; clear hSw; go_simp; first | done | with_reducible rfl | rfl | (intro h_; omega) | (simp only [IntKind.wrap, IntKind.bits, IntKind.signed]; omega) | (simp [IntKind.wrap, IntKind.bits, IntKind.signed]; omega))
          set_option linter.unusedSimpArgs false in try simp only [Act.put, List.setIfInBounds_toArray, List.set_cons_zero, List.set_cons_succ]
          refine wpAnyH_ready (rs := [21]) (by kernel_rfl) (by simp) ?_
          refine AllReadyH.cons rfl (fun K hK => ?_) ?_
          rotate_left
          · exact AllReadyH.nil
          try rw [if_pos (by rfl)]
          go_simp
          refine (HSH.out _).mono ?_
          rintro e wA ⟨gA, rfl, hoA, hbA⟩
          have hs := hHeld.2.size
          have g0 : wA.cell? ⟨w5.heap.size, 0, none⟩ = some (.slice a_u 24 c_u) ∧ Below w7.heap.size w7 wA := ⟨(hbA.cell (p := ⟨w5.heap.size, 0, none⟩) (Nat.lt_of_lt_of_le hul hs)).trans hHeld.1, hHeld.2.trans (hbA.mono hs)⟩
          have HoA := Lib.hid hoA
          clear hoA hbA hs hHeld
          go_wp2_with fail
          refine hK.out _ _ g0 (fun hHeld => ?_)
          clear hK K g0
          set_option linter.unusedSimpArgs false in try simp only [Act.put, List.setIfInBounds_toArray, List.set_cons_zero, List.set_cons_succ]
          refine wpAnyH_take (i := 22) (oi := { dst := some 101, op := _, type := _, pos := _, after := _, guard := _ }) (v := .slice (some ⟨gA, 0, none⟩) 24 24) rfl (by kernel_rfl) (by kernel_rfl) (by kernel_rfl) (fun _ _ _ h => h) (Or.inl ⟨by rfl, ?_⟩) hHeld ?_
          · (intro w_ hSw; have c_ := field_rows (some ⟨gA, 0, none⟩) 24 24 w_; clear hSw; go_simp; first | done | with_reducible rfl | rfl | (intro h_; omega) | (simp only [IntKind.wrap, IntKind.bits, IntKind.signed]; omega) | (simp [IntKind.wrap, IntKind.bits, IntKind.signed]; omega))
          set_option linter.unusedSimpArgs false in try simp only [Act.put, List.setIfInBounds_toArray, List.set_cons_zero, List.set_cons_succ]
          refine wpAnyH_ready (rs := [23]) (by kernel_rfl) (by simp) ?_
          refine AllReadyH.cons rfl (fun K hK => ?_) ?_
          rotate_left
          · exact AllReadyH.nil
          try rw [if_pos (by rfl)]
          go_simp
          refine (rInts_b U 24 _ _ _ _ _ (R_u.out.below hHeld.2) HoA.out (by omega)).mono ?_
          rintro e wB ⟨rfl, hbB⟩
          have hs := hHeld.2.size
          have g0 : wB.cell? ⟨w5.heap.size, 0, none⟩ = some (.slice a_u 24 c_u) ∧ Below w7.heap.size w7 wB := ⟨(hbB.cell (p := ⟨w5.heap.size, 0, none⟩) (Nat.lt_of_lt_of_le hul hs)).trans hHeld.1, hHeld.2.trans (hbB.mono hs)⟩
          clear hbB hs hHeld
          go_wp2_with fail
          refine hK.out _ _ g0 (fun hHeld => ?_)
          clear hK K g0
          set_option linter.unusedSimpArgs false in try simp only [Act.put, List.setIfInBounds_toArray, List.set_cons_zero, List.set_cons_succ]
          refine wpAnyH_take (i := 24) (oi := { dst := some 103, op := _, type := _, pos := _, after := _, guard := _ }) (v := .bool false) rfl (by kernel_rfl) (by kernel_rfl) (by kernel_rfl) (fun _ _ _ h => h) (Or.inl ⟨by rfl, ?_⟩) hHeld ?_
          · (intro w_ hSw; clear hSw; go_simp; first | done | with_reducible rfl | rfl | (intro h_; omega) | (simp only [IntKind.wrap, IntKind.bits, IntKind.signed]; omega) | (simp [IntKind.wrap, IntKind.bits, IntKind.signed]; omega))
          set_option linter.unusedSimpArgs false in try simp only [Act.put, List.setIfInBounds_toArray, List.set_cons_zero, List.set_cons_succ]
          refine wpAnyH_take (i := 25) (oi := { dst := some 104, op := _, type := _, pos := _, after := _, guard := _ }) (v := .bool false) rfl (by kernel_rfl) (by kernel_rfl) (by kernel_rfl) (fun _ _ _ h => h) (Or.inl ⟨by rfl, ?_⟩) hHeld ?_
          · (intro w_ hSw; clear hSw; go_simp; first | done | with_reducible rfl | rfl | (intro h_; omega) | (simp only [IntKind.wrap, IntKind.bits, IntKind.signed]; omega) | (simp [IntKind.wrap, IntKind.bits, IntKind.signed]; omega))
          set_option linter.unusedSimpArgs false in try simp only [Act.put, List.setIfInBounds_toArray, List.set_cons_zero, List.set_cons_succ]
          refine wpAnyH_done (by kernel_rfl) ?_ _
          refine NoPanic.normal ?_
          have HS9 := Lib.hid hHeld.2
          clear hHeld HoA
          go_wp2_with fail
          go_meet
          case rel => exact ⟨rfl, HS9.out⟩
        case rest =>
          obtain ⟨rfl, hb_⟩ := hcut
          have HB2 := HB.out.trans (hb_.mono HB.out.size)
          go_wp2_with fail
          go_meet
          case rel => exact HB2
    case rest =>
      clear HB
      have HB := Lib.hid hcut
      try clear fx_a
      clear HOK HS HI R_a R_s B_a B_s
      go_wp2_with fail
      refine (HO.out _ HB.out).mono ?_
      rintro e w8 ⟨⟨o, rfl⟩, hb_⟩
      have HB_ := Lib.hid (HB.out.trans (hb_.mono HB.out.size))
      clear HB hb_
      have HB := HB_
      clear HB_
      obtain ⟨Z, m, fine, hm, CS, CI, hfine⟩ : ∃ (Z : List Int) (m : Nat) (fine : Bool), m ≤ 24 ∧ (∀ W, Calls Try.prog 16 #[.int .i64 o] W (AnsRB W Z m fine)) ∧ (∀ W, Calls Try.prog 15 #[.int .i64 o] W (AnsRB W Z m fine)) ∧ (fine = true → goodR Z = true) := by
        by_cases h : 0 ≤ o ∧ o ≤ 7
        · exact ⟨_, 24, true, by omega, fun W => ordc_spec o W h.1 h.2, fun W => ordc_impl o W h.1 h.2, fun _ => good_reg _⟩
        · exact ⟨[], 0, false, by omega, fun W => ordc_spec_no o W h, fun W => ordc_impl_no o W h, fun h => by cases h⟩
      have efi : (fine != fine) = false := by simp
      have HS := Lib.hid CS
      have HI := Lib.hid CI
      have HFI := Lib.hid hfine
      clear CS CI hfine
      go_wp2_with fail
      refine (HI.out _).mono ?_
      rintro e w21 ⟨a_r, c_r, rfl, ho_, hb_⟩
      have z_w21 := hb_.size
      try simp only [World.size_alloc] at z_w21
      have HB_ := Lib.hid (HB.out.trans (hb_.mono HB.out.size))
      clear  HB
      have HB := HB_
      clear  HB_
      have R_r := Lib.hid ho_.rd
      clear ho_ hb_
      have R_r_ := Lib.hid (R_r.out.below ((Below.refl _ w21).alloc (Nat.le_refl _) (.cells #[.slice a_r m c_r] 28 (0, 0))))
      have HB_ := Lib.hid (HB.out.alloc HB.out.size (.cells #[.slice a_r m c_r] 28 (0, 0)))
      clear R_r HB
      have R_r := R_r_
      have HB := HB_
      clear R_r_ HB_
      have B_r := Lib.hid (BoxF.new w21 [.slice a_r m c_r] 28)
      go_wp2_with fail
      refine (HS.out _).mono ?_
      rintro e w22 ⟨a_q, c_q, rfl, ho_, hb_⟩
      have z_w22 := hb_.size
      try simp only [World.size_alloc] at z_w22
      have R_r_ := Lib.hid (R_r.out.below hb_)
      have B_r_ := Lib.hid (B_r.out.below hb_)
      have HB_ := Lib.hid (HB.out.trans (hb_.mono HB.out.size))
      clear R_r B_r HB
      have R_r := R_r_
      have B_r := B_r_
      have HB := HB_
      clear R_r_ B_r_ HB_
      have R_q := Lib.hid ho_.rd
      clear ho_ hb_
      have R_r_ := Lib.hid (R_r.out.below ((Below.refl _ w22).alloc (Nat.le_refl _) (.cells #[.slice a_q m c_q] 28 (0, 0))))
      have R_q_ := Lib.hid (R_q.out.below ((Below.refl _ w22).alloc (Nat.le_refl _) (.cells #[.slice a_q m c_q] 28 (0, 0))))
      have B_r_ := Lib.hid (B_r.out.alloc (.cells #[.slice a_q m c_q] 28 (0, 0)))
      have HB_ := Lib.hid (HB.out.alloc HB.out.size (.cells #[.slice a_q m c_q] 28 (0, 0)))
      clear R_r R_q B_r HB
      have R_r := R_r_
      have R_q := R_q_
      have B_r := B_r_
      have HB := HB_
      clear R_r_ R_q_ B_r_ HB_
      have B_q := Lib.hid (BoxF.new w22 [.slice a_q m c_q] 28)
      have fx_r := B_r.out.one.1
      have fx_q := B_q.out.one.1
      go_wp2_with fail
      clear fx_r fx_q
      refine (rInts_b Z m a_r a_q c_r c_q _ R_r.out R_q.out (by omega)).mono ?_
      rintro e w23 ⟨rfl, hb_⟩
      have z_w23 := hb_.size
      try simp only [World.size_alloc] at z_w23
      have R_r_ := Lib.hid (R_r.out.below hb_)
      have R_q_ := Lib.hid (R_q.out.below hb_)
      have B_r_ := Lib.hid (B_r.out.below hb_)
      have B_q_ := Lib.hid (B_q.out.below hb_)
      have HB_ := Lib.hid (HB.out.trans (hb_.mono HB.out.size))
      clear R_r R_q B_r B_q HB
      have R_r := R_r_
      have R_q := R_q_
      have B_r := B_r_
      have B_q := B_q_
      have HB := HB_
      clear R_r_ R_q_ B_r_ B_q_ HB_
      clear hb_
      have HVA := Lib.hid (fun W (h : RdI W a_r m Z) (hg : goodR Z = true) => valid_impl Z m a_r c_r W h (good_wf hg) (by omega))
      cases fine
      · clear HVA HFI
        go_wp2_with fail
        refine (HP.out _ HB.out).mono ?_
        rintro e w9 ⟨⟨x, y, rfl⟩, hb_⟩
        have HB9 := Lib.hid (HB.out.trans (hb_.mono HB.out.size))
        clear hb_
        have es : (shZ x y == shZ x y) = true := by simp
        go_wp2_with fail
        refine (inShield_impl x y _).mono ?_
        rintro e w' ⟨rfl, rfl⟩
        go_wp2_with fail
        refine (inShield_spec x y _).mono ?_
        rintro e w' ⟨rfl, rfl⟩
        go_wp2_with fail
        go_ret
        exact ⟨rfl, HB9.out⟩
      · have c_r_ := B_r.out.one.1
        have HV2 := Lib.hid (HVA.out _ R_r.out (HFI.out rfl))
        rw [HFI.out rfl] at HV2
        clear HVA
        go_wp2_with fail
        clear c_r_
        refine (HV2.out).mono ?_
        rintro e w24 ⟨rfl, hb_⟩
        have z_w24 := hb_.size
        try simp only [World.size_alloc] at z_w24
        have R_r_ := Lib.hid (R_r.out.below hb_)
        have R_q_ := Lib.hid (R_q.out.below hb_)
        have B_r_ := Lib.hid (B_r.out.below hb_)
        have B_q_ := Lib.hid (B_q.out.below hb_)
        have HB_ := Lib.hid (HB.out.trans (hb_.mono HB.out.size))
        clear R_r R_q B_r B_q HB
        have R_r := R_r_
        have R_q := R_q_
        have B_r := B_r_
        have B_q := B_q_
        have HB := HB_
        clear R_r_ R_q_ B_r_ B_q_ HB_
        clear hb_
        go_wp2_with fail
        refine (HP.out _ HB.out).mono ?_
        rintro e w9 ⟨⟨x, y, rfl⟩, hb_⟩
        have HB9 := Lib.hid (HB.out.trans (hb_.mono HB.out.size))
        clear hb_
        have es : (shZ x y == shZ x y) = true := by simp
        go_wp2_with fail
        refine (inShield_impl x y _).mono ?_
        rintro e w' ⟨rfl, rfl⟩
        go_wp2_with fail
        refine (inShield_spec x y _).mono ?_
        rintro e w' ⟨rfl, rfl⟩
        go_wp2_with fail
        go_ret
        exact ⟨rfl, HB9.out⟩

/-! ### THE ROW's STEP: WRITTEN OUT: LEAVE IT -/
set_option maxRecDepth 100000 in
theorem lifted (os : Os) (started : os.Started) (H : Type) (enc : TypeId × Value → H) :
    ReturnsInHanded {} Try.checked os 3 .any (Rows.fnPartsSpec.pre6 enc Try.prog Try.f3 Rows.fnPartsRow.domain false) (Rows.fnPartsSpec.post enc Try.prog Try.f3 false true false false) := by
  refine returnsInHanded_of_change (C := Try.checked) own started (by kernel_rfl) Try.func3
    (ChangeSpec.witness6 (enc := enc) (C := Try.checked) false ⟨#[], #[.slice none 0 0], []⟩ 8 (by kernel_rfl) (by kernel_rfl) (by kernel_rfl) (by kernel_rfl)) ?_
  intro W base args ds gs before hval0 hW hcnd _
  have hval : ∀ (j : Nat) t v, Try.f3.params[j]? = some t → args[j]? = some v → Value.okWide Try.prog W .any base t v := hval0
  have hW' := hW
  obtain ⟨p, q, hA0, hV, rfl, hfz, hnd⟩ := hW
  have hA : DataW.TrodAll enc Try.prog W 0 (fun _ => true) true Try.f3.params.toList args.toList ds p := hA0
  rw [Try.params3] at hA hval
  obtain ⟨v0, vs0, d0, ds0, p0, q0, hargs, rfl, rfl, h0, r0⟩ := trodAll_cons hA
  obtain ⟨rfl, rfl, rfl⟩ := trodAll_nil r0
  obtain rfl : args = #[v0] := by cases args; simp_all
  obtain ⟨rfl, rfl⟩ := trodVars_none hV
  obtain ⟨a0, len0, cap0, rfl⟩ := okWide_slice Try.underlying22 (hval 0 22 v0 rfl rfl)
  have k0 := h0
  have lt0 : ∀ x ∈ p0, x.block < W.heap.size := by obtain ⟨m, hm⟩ := k0; exact DataW.trod_lt m _ _ _ hm
  obtain ⟨z0, w0⟩ : ∃ zs, IsRow .u8 W a0 len0 cap0 zs := by
    obtain ⟨fuel, hf⟩ := h0
    rcases open_ints Try.underlying22 Try.underlying5 (by kernel_rfl) hf with ⟨hcs, _⟩ | ⟨x, l, c, zs, hcs, _, hl, hm, hz, _, hcell, hwz⟩
    · simp [Value.cells] at hcs
      obtain ⟨rfl, rfl, rfl⟩ := hcs
      exact ⟨[], .inl ⟨rfl, rfl, rfl, rfl⟩⟩
    · simp [Value.cells] at hcs
      obtain ⟨rfl, rfl, rfl⟩ := hcs
      exact ⟨zs, .inr ⟨_, rfl, hl, hm, by simpa using hz, hcell, hwz⟩⟩
  clear hA0 hval0
  refine (walk a0 len0 cap0 z0 W w0).mono fun e W' ⟨he, bel⟩ => ?_
  subst he
  exact ⟨_, rfl, _, _, _, [], _, [], hW', trodAll_mk1 (shut_bool Try.underlying4 _), (trodAll_cons_mk (Below.trod laidOut (by kernel_rfl) (of_decide_eq_true (by kernel_rfl)) k0 bel lt0) trodAll_mk0), rfl, bel.frame _, fun h => by cases h⟩

theorem over : Rows.fnPartsRow.holds Try.pinned (OpenSpec.ofChange Rows.fnPartsSpec) :=
  OpenClaim.holds_of_wide 3 Try.f3 rfl rfl rfl rfl rfl rfl rfl ⟨rfl, rfl, rfl, rfl, rfl⟩ rfl rfl rfl rfl rfl (by kernel_rfl) Try.func3 (by kernel_rfl)
    (of_decide_eq_true (by kernel_rfl)) (by unfold Func.isWrapper; first | (rw [if_pos (by decide +kernel)]; kernel_rfl) | (rw [if_neg (by decide +kernel)]; exact ⟨rfl, rfl⟩))
    (fun os started H enc _ => lifted os started H enc)

/-- ████ THE STATEMENT ████ -/
theorem proved : Rows.FnPartsSaid := over
#print axioms proved
end Go.Proofs.Yteekleibddjblaa.fnParts
