/- FnLines: at every slice of bytes the law returns true: offsets repeat with their period, and the parts of a field with a line make up the shield. The card ties the table of offsets to the program's text. No condition. -/
import Derived.Test.YtkhpgggaaldhhaaDoorRows
import Derived.Test.YtkhpgggaaldhhaaDoorCards
import Derived.Test.YtkhpgggaaldhhaaDoorTie
import Derived.WalkKit
import Derived.ProofKit
import Derived.OpenShut
import Derived.ShutString
import Derived.Test.YtkhpgggaaldhhaaDoorC10G
import Derived.Test.YtkhpgggaaldhhaaDoorC9L
import Derived.Deep.DeepCutAuto
import Derived.Deep.RegionHeld3
import Derived.LaidMore
import Derived.Stop.Joined
import Derived.SevenTiedAt
import Derived.OpenVars
import Derived.ChangeVars
import Derived.ChangeOld
import Derived.Below
namespace Go.Proofs.YtkhpgggaaldhhaaDoor.fnLines
open Go.ChangeShapes Go.WideShapes Go.ChangeAt Go.RowKit
open Go.ChangeMaps (open_string shut_string)
set_option linter.unusedVariables false

def laidL : List (String × DataW Unit) := [("loop.example/g00884/impl.lineOffsets", Rows.laid_loop_example_g00884_impl_lineOffsets)]

/-- The door's own heap meets the condition. -/
theorem door_met (os : Os) (args : Array Value) : laidMetH Tryd.prog laidL ((World.doorLaid Tryd.prog 400 os).forCall (fun _ _ => 0) ⟨#[], args, []⟩).memory :=
  laidMetH_of_parts3 (fuel := 8) (laidMet_of_run' 8 (by kernel_rfl) (by kernel_rfl)) (by kernel_rfl) (by kernel_rfl)

theorem own : ownKnob Tryd.prog.godebug = none := by kernel_rfl
theorem laidOut : laidOutB Tryd.prog = true := by kernel_rfl

/-- WHAT THE WALK IS TOLD OF A SLICE OF INTEGERS THAT CAME IN: it is nil; or it leads to a row of 'cap' cells, the numbers 'zs' (the first 'len' are its elements, the rest its spare room), each fitting its kind. -/
def IsRow (k : IntKind) (w : World) (a : Option Addr) (len cap : Nat) (zs : List Int) : Prop :=
  (a = none ∧ len = 0 ∧ cap = 0 ∧ zs = []) ∨
  ∃ x, a = some x ∧ len ≤ cap ∧ cap ≤ maxLen ∧ zs.length = cap ∧ (∀ i, i < zs.length → w.cell? (x.add i) = some (.int k (zs.getD i 0))) ∧ ∀ n ∈ zs, (Lit.int k n).wf = true

/-! ### STEP 1: THE WALK: the Go text returns true, AND WRITES NOTHING THAT WAS THERE: 'Below w.heap.size w w'' (Derived/Below.lean: '.refl', '.alloc', '.drew', '.setCell' at a new block, '.trans'). Open each 'IsRow' by 'rcases' AHEAD of 'go_enter'; part every test ahead of the walk. -/
set_option maxHeartbeats 16000000 in
set_option maxRecDepth 100000 in
theorem walk (a0 : Option Addr) (len0 cap0 : Nat) (z0 : List Int) (w : World) (w0 : IsRow .u8 w a0 len0 cap0 z0) (hL : laidMetH Tryd.prog laidL w) :
    Calls Tryd.prog 3 #[.slice a0 len0 cap0] w fun e w' => e = .returned (.bool true) ∧ Below w.heap.size w w' := by
  have hT : OffsLie w := offsH hL
  have hR : RdB w w.heap.size a0 len0 := by
    rcases w0 with ⟨rfl, rfl, rfl, rfl⟩ | ⟨⟨b, o, spot⟩, rfl, hl, hm, hz, hc, hwf⟩
    · intro h; omega
    · refine rdb_ofG (fun k hk => hc k (by omega)) (fun k hk => ?_)
      have e2 : z0.getD k 0 = z0[k]'(by omega) := by simp [List.getD, show k < z0.length by omega]
      have h2 := hwf (z0.getD k 0) (by rw [e2]; exact List.getElem_mem _)
      exact (by simpa [Lit.wf] using h2)
  clear w0
  have hB := rBig_any a0 len0 cap0 w
  by_cases hbig : (65536 : Int) < (len0 : Int)
  · have e1 : decide ((65536 : Int) < (len0 : Int)) = true := by simp; omega
    simp only [e1] at hB
    clear hR
    go_enter Tryd.func3, Tryd.ntmps3
    go_wp2_with (go_at_call 13; refine hB.mono ?_; rintro e w' ⟨rfl, rfl⟩)
    go_ret
    exact ⟨rfl, Below.refl _ _⟩
  · have e1 : decide ((65536 : Int) < (len0 : Int)) = false := by simp; omega
    simp only [e1] at hB
    have hn : len0 ≤ 65536 := by omega
    have cd := drawLO_any a0 len0 cap0 w hR hn
    have HD2 := Lib.hid (fun W (h : Below w.heap.size w W) => drawFR_any a0 len0 cap0 W (hR.on h) hn)
    have HD3 := Lib.hid (fun W (h : Below w.heap.size w W) => drawLT_any a0 len0 cap0 W (hR.on h) hn)
    have HT := Lib.hid hT
    clear hR hT hL
    go_enter Tryd.func3, Tryd.ntmps3
    go_wp2_with (go_at_call 13; refine hB.mono ?_; rintro e w' ⟨rfl, rfl⟩)
    refine cd.mono ?_
    rintro e w0_ ⟨⟨l, t, rfl⟩, hb0_⟩
    have HB := Lib.hid hb0_
    clear hB cd hb0_
    obtain ⟨m, r, C1, C2, hr⟩ : ∃ (m : Int) (r : Bool), (∀ W, Below w.heap.size w W → Calls Tryd.prog 15 #[.int .i64 l, .int .i64 t] W fun e w' => e = .returned (.tuple #[.int .i64 m, .bool r]) ∧ Below W.heap.size W w') ∧ (∀ W, Calls Tryd.prog 16 #[.int .i64 l, .int .i64 t] W fun e w' => e = .returned (.tuple #[.int .i64 m, .bool r]) ∧ Below W.heap.size W w') ∧ (r = true → (0 ≤ l ∧ l ≤ 4) ∧ (0 ≤ t ∧ t ≤ 1000) ∧ m = offZ l t.toNat) := by
      refine ⟨_, _, fun W h => lineOff_impl l t W (HT.out.below h), fun W => lineOff_spec l t W, fun hr => ?_⟩
      rw [hr, if_pos rfl]
      unfold okOff at hr
      simp only [Bool.and_eq_true, decide_eq_true_eq] at hr
      exact ⟨hr.1, hr.2, rfl⟩
    obtain ⟨P, r2, C3, C4, hP⟩ : ∃ (P : Int) (r2 : Bool), (∀ W, Below w.heap.size w W → Calls Tryd.prog 17 #[.int .i64 l] W fun e w' => e = .returned (.tuple #[.int .i64 P, .bool r2]) ∧ Below W.heap.size W w') ∧ (∀ W, Calls Tryd.prog 18 #[.int .i64 l] W fun e w' => e = .returned (.tuple #[.int .i64 P, .bool r2]) ∧ Below W.heap.size W w') ∧ (0 ≤ l ∧ l ≤ 4 → P = ((offL l).length : Int)) := by
      refine ⟨_, _, fun W h => period_impl l W (HT.out.below h), fun W => period_spec l W, fun hl => ?_⟩
      rw [decide_eq_true hl, if_pos rfl]
    have hbig2 : r = true → 0 ≤ t ∧ t ≤ 1000 ∧ 0 ≤ P ∧ P ≤ 8 ∧ (t + P ≤ 1000 → ∀ W, Below w.heap.size w W → Calls Tryd.prog 15 #[.int .i64 l, .int .i64 (t + P)] W fun e w' => e = .returned (.tuple #[.int .i64 m, .bool true]) ∧ Below W.heap.size W w') := fun h => by
      obtain ⟨hl, ht, hm⟩ := hr h
      have hp := hP hl
      have h8 := offL_le l
      refine ⟨ht.1, ht.2, by omega, by omega, fun hle W hW => ?_⟩
      have hh := lineOff_impl l (t + P) W (HT.out.below hW)
      have ho : okOff l (t + P) = true := by
        unfold okOff
        rw [decide_eq_true hl, decide_eq_true (by omega)]; rfl
      have e : offZ l (t + P).toNat = m := by
        rw [hm, ← off_again l t.toNat]
        congr 1
        omega
      rw [ho, if_pos rfl, e] at hh
      exact hh
    obtain ⟨bb, hbb⟩ : ∃ bb, (r && decide (t + P ≤ 1000)) = bb := ⟨_, rfl⟩
    have H1 := Lib.hid C1
    have H2 := Lib.hid C2
    have H3 := Lib.hid C3
    have H4 := Lib.hid C4
    have HG := Lib.hid hbig2
    have er : (r != r) = false := by simp
    have er2 : (r2 != r2) = false := by simp
    have em : (m != m) = false := by simp
    have eP : (P != P) = false := by simp
    clear C1 C2 C3 C4 hr hP hbig2
    go_wp2_with fail
    refine (H1.out _ HB.out).mono ?_
    rintro e w1 ⟨rfl, hb_⟩
    have z_w1 := hb_.size
    try simp only [World.size_alloc] at z_w1
    have HB_ := Lib.hid (HB.out.trans (hb_.mono HB.out.size))
    clear  HB
    have HB := HB_
    clear  HB_
    clear hb_
    go_wp2_with fail
    refine (H2.out _).mono ?_
    rintro e w2 ⟨rfl, hb_⟩
    have z_w2 := hb_.size
    try simp only [World.size_alloc] at z_w2
    have HB_ := Lib.hid (HB.out.trans (hb_.mono HB.out.size))
    clear  HB
    have HB := HB_
    clear  HB_
    clear hb_
    go_wp2_with fail
    refine (H3.out _ HB.out).mono ?_
    rintro e w3 ⟨rfl, hb_⟩
    have z_w3 := hb_.size
    try simp only [World.size_alloc] at z_w3
    have HB_ := Lib.hid (HB.out.trans (hb_.mono HB.out.size))
    clear  HB
    have HB := HB_
    clear  HB_
    clear hb_
    go_wp2_with fail
    refine (H4.out _).mono ?_
    rintro e w4 ⟨rfl, hb_⟩
    have z_w4 := hb_.size
    try simp only [World.size_alloc] at z_w4
    have HB_ := Lib.hid (HB.out.trans (hb_.mono HB.out.size))
    clear  HB
    have HB := HB_
    clear  HB_
    clear hb_
    go_upto_region 12 with fail
    go_cut [88] (fun sx wx => sx = .bool bb ∧ Below w4.heap.size w4 wx)
    case first =>
      cases r
      · go_wp2_with fail
        go_meet
        case rel => exact ⟨by rw [← hbb]; rfl, Below.refl _ _⟩
      · obtain ⟨t0, t1, p0, p1, _⟩ := HG.out rfl
        have hbb2 : decide (t + P ≤ 1000) = bb := by rw [← hbb]; simp
        have ew : IntKind.i64.wrap (t + P) = t + P := by simp [IntKind.wrap, IntKind.bits, IntKind.signed]; omega
        clear hbb HG
        go_wp2_with fail
        go_meet
        case rel => exact ⟨by first | rfl | rw [hbb2], Below.refl _ _⟩
    case rest =>
      obtain ⟨rfl, hb_⟩ := hcut
      have HB_ := Lib.hid (HB.out.trans (hb_.mono HB.out.size))
      clear HB hb_
      have HB := HB_
      clear HB_
      clear H1 H2 H3 H4 er er2 eP
      go_upto_if 88 with fail
      go_cut [] (fun wx => Below w.heap.size w wx)
      case first =>
        cases bb
        · have HB2 := HB.out
          clear hbb HG
          go_wp2_with fail
          go_meet
          case rel => exact HB2
        · simp only [Bool.and_eq_true, decide_eq_true_eq] at hbb
          obtain ⟨t0, t1, p0, p1, C⟩ := HG.out hbb.1
          have C := Lib.hid (C hbb.2)
          have ew : IntKind.i64.wrap (t + P) = t + P := by simp [IntKind.wrap, IntKind.bits, IntKind.signed]; omega
          clear HG hbb
          go_wp2_with fail
          refine (C.out _ HB.out).mono ?_
          rintro e wz ⟨rfl, hb_⟩
          have HB2 := HB.out.trans (hb_.mono HB.out.size)
          clear hb_ ew C
          go_wp2_with fail
          go_meet
          case rel => exact HB2
      case rest =>
        clear HB
        have HB := Lib.hid hcut
        clear hcut HG hbb em
        go_wp2_with fail
        refine (HD2.out _ HB.out).mono ?_
        rintro e w9 ⟨⟨d, l, f, s, p, rfl⟩, hb_⟩
        have HB_ := Lib.hid (HB.out.trans (hb_.mono HB.out.size))
        clear HB hb_
        have HB := HB_
        clear HB_
        obtain ⟨X, n, ok, hX, CS, CI, hz⟩ : ∃ (X : List Int) (n : Nat) (ok : Bool), n ≤ 24 ∧ (∀ W, Calls Tryd.prog 21 #[.agg #[.int .i64 d, .int .i64 l, .int .i64 f, .int .i64 s], .int .i64 p] W (AnsRB W X n ok)) ∧ (∀ W, Below w.heap.size w W → Calls Tryd.prog 20 #[.agg #[.int .i64 d, .int .i64 l, .int .i64 f, .int .i64 s], .int .i64 p] W (AnsRB W X n ok)) ∧ (ok = true → n = 24 ∧ (FOk d l f s ∧ (0 ≤ p ∧ p ≤ 1)) ∧ RowKit.Hid (rowsOfR (regN (fun i j => ((if lnFirst d l i j = true then (0 : Int) else 1) == p))) = X)) := by
          by_cases h : FOk d l f s ∧ (0 ≤ p ∧ p ≤ 1)
          · exact ⟨_, 24, true, by omega, fun W => fregion_spec d l f s p W h.1 h.2.1 h.2.2, fun W hb => fregion_impl d l f s p W (HT.out.below hb) h.1 h.2.1 h.2.2, fun _ => ⟨rfl, h, Lib.hid rfl⟩⟩
          · exact ⟨[], 0, false, by omega, fun W => fregion_spec_no d l f s p W h, fun W hb => fregion_impl_no d l f s p W h, fun h => by cases h⟩
        have eok : (ok != ok) = false := by simp
        have HS := Lib.hid CS
        have HI := Lib.hid CI
        have HZ := Lib.hid hz
        clear CS CI hz
        have HB_ := Lib.hid (HB.out.alloc HB.out.size (.cells #[.int .i64 d, .int .i64 l, .int .i64 f, .int .i64 s] 30 (0, 0)))
        clear  HB
        have HB := HB_
        clear  HB_
        have B_g := Lib.hid (BoxF.new w9 [.int .i64 d, .int .i64 l, .int .i64 f, .int .i64 s] 30)
        have d0 := B_g.out.at 0
        have d1 := B_g.out.at 1
        have d2 := B_g.out.at 2
        have d3 := B_g.out.at 3
        simp only [List.getElem?_cons_zero, List.getElem?_cons_succ] at d0 d1 d2 d3
        go_wp2_with fail
        clear d0 d1 d2 d3
        refine (HI.out _ HB.out).mono ?_
        rintro e w10 ⟨a_a, c_a, rfl, ho_, hb_⟩
        have z_w10 := hb_.size
        try simp only [World.size_alloc] at z_w10
        have B_g_ := Lib.hid (B_g.out.below hb_)
        have HB_ := Lib.hid (HB.out.trans (hb_.mono HB.out.size))
        clear B_g HB
        have B_g := B_g_
        have HB := HB_
        clear B_g_ HB_
        have R_a := Lib.hid ho_.rd
        clear ho_ hb_
        have R_a_ := Lib.hid (R_a.out.below ((Below.refl _ w10).alloc (Nat.le_refl _) (.cells #[.slice a_a n c_a] 35 (0, 0))))
        have B_g_ := Lib.hid (B_g.out.alloc (.cells #[.slice a_a n c_a] 35 (0, 0)))
        have HB_ := Lib.hid (HB.out.alloc HB.out.size (.cells #[.slice a_a n c_a] 35 (0, 0)))
        clear R_a B_g HB
        have R_a := R_a_
        have B_g := B_g_
        have HB := HB_
        clear R_a_ B_g_ HB_
        have B_a := Lib.hid (BoxF.new w10 [.slice a_a n c_a] 35)
        have d0 := B_g.out.at 0
        have d1 := B_g.out.at 1
        have d2 := B_g.out.at 2
        have d3 := B_g.out.at 3
        simp only [List.getElem?_cons_zero, List.getElem?_cons_succ] at d0 d1 d2 d3
        go_wp2_with fail
        clear d0 d1 d2 d3 
        refine (HS.out _).mono ?_
        rintro e w11 ⟨a_s, c_s, rfl, ho_, hb_⟩
        have z_w11 := hb_.size
        try simp only [World.size_alloc] at z_w11
        have R_a_ := Lib.hid (R_a.out.below hb_)
        have B_g_ := Lib.hid (B_g.out.below hb_)
        have B_a_ := Lib.hid (B_a.out.below hb_)
        have HB_ := Lib.hid (HB.out.trans (hb_.mono HB.out.size))
        clear R_a B_g B_a HB
        have R_a := R_a_
        have B_g := B_g_
        have B_a := B_a_
        have HB := HB_
        clear R_a_ B_g_ B_a_ HB_
        have R_s := Lib.hid ho_.rd
        clear ho_ hb_
        have R_a_ := Lib.hid (R_a.out.below ((Below.refl _ w11).alloc (Nat.le_refl _) (.cells #[.slice a_s n c_s] 35 (0, 0))))
        have R_s_ := Lib.hid (R_s.out.below ((Below.refl _ w11).alloc (Nat.le_refl _) (.cells #[.slice a_s n c_s] 35 (0, 0))))
        have B_g_ := Lib.hid (B_g.out.alloc (.cells #[.slice a_s n c_s] 35 (0, 0)))
        have B_a_ := Lib.hid (B_a.out.alloc (.cells #[.slice a_s n c_s] 35 (0, 0)))
        have HB_ := Lib.hid (HB.out.alloc HB.out.size (.cells #[.slice a_s n c_s] 35 (0, 0)))
        clear R_a R_s B_g B_a HB
        have R_a := R_a_
        have R_s := R_s_
        have B_g := B_g_
        have B_a := B_a_
        have HB := HB_
        clear R_a_ R_s_ B_g_ B_a_ HB_
        have B_s := Lib.hid (BoxF.new w11 [.slice a_s n c_s] 35)
        have fx_a := B_a.out.one.1
        have fx_s := B_s.out.one.1
        go_wp2_with fail
        clear fx_a fx_s
        refine (rInts_b X n a_a a_s c_a c_s _ R_a.out R_s.out (by omega)).mono ?_
        rintro e w12 ⟨rfl, hb_⟩
        have z_w12 := hb_.size
        try simp only [World.size_alloc] at z_w12
        have R_a_ := Lib.hid (R_a.out.below hb_)
        have R_s_ := Lib.hid (R_s.out.below hb_)
        have B_g_ := Lib.hid (B_g.out.below hb_)
        have B_a_ := Lib.hid (B_a.out.below hb_)
        have B_s_ := Lib.hid (B_s.out.below hb_)
        have HB_ := Lib.hid (HB.out.trans (hb_.mono HB.out.size))
        clear R_a R_s B_g B_a B_s HB
        have R_a := R_a_
        have R_s := R_s_
        have B_g := B_g_
        have B_a := B_a_
        have B_s := B_s_
        have HB := HB_
        clear R_a_ R_s_ B_g_ B_a_ B_s_ HB_
        clear hb_
        have fx_a := B_a.out.one.1
        have d0 := B_g.out.at 0
        have d1 := B_g.out.at 1
        have d2 := B_g.out.at 2
        have d3 := B_g.out.at 3
        simp only [List.getElem?_cons_zero, List.getElem?_cons_succ] at d0 d1 d2 d3
        go_upto_if 132 with fail
        go_cut [] (fun wx => Below w.heap.size w wx)
        case first =>
          cases ok
          · have HB2 := HB.out
            clear HZ
            go_wp2_with fail
            go_meet
            case rel => exact HB2
          · obtain ⟨h24, ⟨hF, hp0, hp1⟩, hXX⟩ := HZ.out rfl
            subst h24
            obtain ⟨Y, S, n1, n2, n3, gX, gY, gS, gU, gH, gn1, gn2, gn3, hsum, hbnd, CY⟩ := parts_line d l f s p w HT.out hF hp0 hp1 X hXX
            have HY := Lib.hid CY
            have HA1 := Lib.hid (area_named X n1 gX gn1)
            have HA2 := Lib.hid (area_named Y n2 gY gn2)
            have HA3 := Lib.hid (area_named S n3 gS gn3)
            have HU := Lib.hid (union_named X Y S gX gY gU)
            have HH := Lib.hid (shield_named S gH)
            have ewp : IntKind.i64.wrap (1 - p) = 1 - p := by simp [IntKind.wrap, IntKind.bits, IntKind.signed]; omega
            have ews : IntKind.i64.wrap (n1 + n2) = n1 + n2 := by simp [IntKind.wrap, IntKind.bits, IntKind.signed]; omega
            have esum : (n1 + n2 != n3) = false := by rw [hsum]; simp
            clear CY gX gY gS gU gH gn1 gn2 gn3 HZ hXX hF HS HI eok
            go_wp2_with fail
            clear d0 d1 d2 d3 fx_a ewp
            refine (HY.out _ HB.out).mono ?_
            rintro e w13 ⟨a_b, c_b, rfl, ho_, hb_⟩
            have z_w13 := hb_.size
            try simp only [World.size_alloc] at z_w13
            have R_a_ := Lib.hid (R_a.out.below hb_)
            have R_s_ := Lib.hid (R_s.out.below hb_)
            have B_g_ := Lib.hid (B_g.out.below hb_)
            have B_a_ := Lib.hid (B_a.out.below hb_)
            have B_s_ := Lib.hid (B_s.out.below hb_)
            have HB_ := Lib.hid (HB.out.trans (hb_.mono HB.out.size))
            clear R_a R_s B_g B_a B_s HB
            have R_a := R_a_
            have R_s := R_s_
            have B_g := B_g_
            have B_a := B_a_
            have B_s := B_s_
            have HB := HB_
            clear R_a_ R_s_ B_g_ B_a_ B_s_ HB_
            have R_b := Lib.hid ho_.rd
            clear ho_ hb_
            have R_a_ := Lib.hid (R_a.out.below ((Below.refl _ w13).alloc (Nat.le_refl _) (.cells #[.slice a_b 24 c_b] 35 (0, 0))))
            have R_s_ := Lib.hid (R_s.out.below ((Below.refl _ w13).alloc (Nat.le_refl _) (.cells #[.slice a_b 24 c_b] 35 (0, 0))))
            have R_b_ := Lib.hid (R_b.out.below ((Below.refl _ w13).alloc (Nat.le_refl _) (.cells #[.slice a_b 24 c_b] 35 (0, 0))))
            have B_g_ := Lib.hid (B_g.out.alloc (.cells #[.slice a_b 24 c_b] 35 (0, 0)))
            have B_a_ := Lib.hid (B_a.out.alloc (.cells #[.slice a_b 24 c_b] 35 (0, 0)))
            have B_s_ := Lib.hid (B_s.out.alloc (.cells #[.slice a_b 24 c_b] 35 (0, 0)))
            have HB_ := Lib.hid (HB.out.alloc HB.out.size (.cells #[.slice a_b 24 c_b] 35 (0, 0)))
            clear R_a R_s R_b B_g B_a B_s HB
            have R_a := R_a_
            have R_s := R_s_
            have R_b := R_b_
            have B_g := B_g_
            have B_a := B_a_
            have B_s := B_s_
            have HB := HB_
            clear R_a_ R_s_ R_b_ B_g_ B_a_ B_s_ HB_
            have B_b := Lib.hid (BoxF.new w13 [.slice a_b 24 c_b] 35)
            have fx_a := B_a.out.one.1
            have fx_b := B_b.out.one.1
            go_wp2_with fail
            clear fx_a fx_b
            refine (HU.out _ _ _ _ _ R_a.out R_b.out).mono ?_
            rintro e w14 ⟨a_u, c_u, rfl, ho_, hb_⟩
            have z_w14 := hb_.size
            try simp only [World.size_alloc] at z_w14
            have R_a_ := Lib.hid (R_a.out.below hb_)
            have R_s_ := Lib.hid (R_s.out.below hb_)
            have R_b_ := Lib.hid (R_b.out.below hb_)
            have B_g_ := Lib.hid (B_g.out.below hb_)
            have B_a_ := Lib.hid (B_a.out.below hb_)
            have B_s_ := Lib.hid (B_s.out.below hb_)
            have B_b_ := Lib.hid (B_b.out.below hb_)
            have HB_ := Lib.hid (HB.out.trans (hb_.mono HB.out.size))
            clear R_a R_s R_b B_g B_a B_s B_b HB
            have R_a := R_a_
            have R_s := R_s_
            have R_b := R_b_
            have B_g := B_g_
            have B_a := B_a_
            have B_s := B_s_
            have B_b := B_b_
            have HB := HB_
            clear R_a_ R_s_ R_b_ B_g_ B_a_ B_s_ B_b_ HB_
            have R_u := Lib.hid ho_.rd
            clear ho_ hb_
            have R_a_ := Lib.hid (R_a.out.below ((Below.refl _ w14).alloc (Nat.le_refl _) (.cells #[.slice a_u 24 c_u] 35 (0, 0))))
            have R_s_ := Lib.hid (R_s.out.below ((Below.refl _ w14).alloc (Nat.le_refl _) (.cells #[.slice a_u 24 c_u] 35 (0, 0))))
            have R_b_ := Lib.hid (R_b.out.below ((Below.refl _ w14).alloc (Nat.le_refl _) (.cells #[.slice a_u 24 c_u] 35 (0, 0))))
            have R_u_ := Lib.hid (R_u.out.below ((Below.refl _ w14).alloc (Nat.le_refl _) (.cells #[.slice a_u 24 c_u] 35 (0, 0))))
            have B_g_ := Lib.hid (B_g.out.alloc (.cells #[.slice a_u 24 c_u] 35 (0, 0)))
            have B_a_ := Lib.hid (B_a.out.alloc (.cells #[.slice a_u 24 c_u] 35 (0, 0)))
            have B_s_ := Lib.hid (B_s.out.alloc (.cells #[.slice a_u 24 c_u] 35 (0, 0)))
            have B_b_ := Lib.hid (B_b.out.alloc (.cells #[.slice a_u 24 c_u] 35 (0, 0)))
            have HB_ := Lib.hid (HB.out.alloc HB.out.size (.cells #[.slice a_u 24 c_u] 35 (0, 0)))
            clear R_a R_s R_b R_u B_g B_a B_s B_b HB
            have R_a := R_a_
            have R_s := R_s_
            have R_b := R_b_
            have R_u := R_u_
            have B_g := B_g_
            have B_a := B_a_
            have B_s := B_s_
            have B_b := B_b_
            have HB := HB_
            clear R_a_ R_s_ R_b_ R_u_ B_g_ B_a_ B_s_ B_b_ HB_
            have B_u := Lib.hid (BoxF.new w14 [.slice a_u 24 c_u] 35)
            have fx_a := B_a.out.one.1
            go_wp2_with fail
            clear fx_a
            refine (HA1.out _ _ _ R_a.out).mono ?_
            rintro e w15 ⟨rfl, hb_⟩
            have z_w15 := hb_.size
            try simp only [World.size_alloc] at z_w15
            have R_a_ := Lib.hid (R_a.out.below hb_)
            have R_s_ := Lib.hid (R_s.out.below hb_)
            have R_b_ := Lib.hid (R_b.out.below hb_)
            have R_u_ := Lib.hid (R_u.out.below hb_)
            have B_g_ := Lib.hid (B_g.out.below hb_)
            have B_a_ := Lib.hid (B_a.out.below hb_)
            have B_s_ := Lib.hid (B_s.out.below hb_)
            have B_b_ := Lib.hid (B_b.out.below hb_)
            have B_u_ := Lib.hid (B_u.out.below hb_)
            have HB_ := Lib.hid (HB.out.trans (hb_.mono HB.out.size))
            clear R_a R_s R_b R_u B_g B_a B_s B_b B_u HB
            have R_a := R_a_
            have R_s := R_s_
            have R_b := R_b_
            have R_u := R_u_
            have B_g := B_g_
            have B_a := B_a_
            have B_s := B_s_
            have B_b := B_b_
            have B_u := B_u_
            have HB := HB_
            clear R_a_ R_s_ R_b_ R_u_ B_g_ B_a_ B_s_ B_b_ B_u_ HB_
            clear hb_
            have fx_b := B_b.out.one.1
            go_wp2_with fail
            clear fx_b
            refine (HA2.out _ _ _ R_b.out).mono ?_
            rintro e w16 ⟨rfl, hb_⟩
            have z_w16 := hb_.size
            try simp only [World.size_alloc] at z_w16
            have R_a_ := Lib.hid (R_a.out.below hb_)
            have R_s_ := Lib.hid (R_s.out.below hb_)
            have R_b_ := Lib.hid (R_b.out.below hb_)
            have R_u_ := Lib.hid (R_u.out.below hb_)
            have B_g_ := Lib.hid (B_g.out.below hb_)
            have B_a_ := Lib.hid (B_a.out.below hb_)
            have B_s_ := Lib.hid (B_s.out.below hb_)
            have B_b_ := Lib.hid (B_b.out.below hb_)
            have B_u_ := Lib.hid (B_u.out.below hb_)
            have HB_ := Lib.hid (HB.out.trans (hb_.mono HB.out.size))
            clear R_a R_s R_b R_u B_g B_a B_s B_b B_u HB
            have R_a := R_a_
            have R_s := R_s_
            have R_b := R_b_
            have R_u := R_u_
            have B_g := B_g_
            have B_a := B_a_
            have B_s := B_s_
            have B_b := B_b_
            have B_u := B_u_
            have HB := HB_
            clear R_a_ R_s_ R_b_ R_u_ B_g_ B_a_ B_s_ B_b_ B_u_ HB_
            clear hb_
            have fx_u := B_u.out.one.1
            go_wp2_with fail
            clear fx_u
            refine (HA3.out _ _ _ R_u.out).mono ?_
            rintro e w17 ⟨rfl, hb_⟩
            have z_w17 := hb_.size
            try simp only [World.size_alloc] at z_w17
            have R_a_ := Lib.hid (R_a.out.below hb_)
            have R_s_ := Lib.hid (R_s.out.below hb_)
            have R_b_ := Lib.hid (R_b.out.below hb_)
            have R_u_ := Lib.hid (R_u.out.below hb_)
            have B_g_ := Lib.hid (B_g.out.below hb_)
            have B_a_ := Lib.hid (B_a.out.below hb_)
            have B_s_ := Lib.hid (B_s.out.below hb_)
            have B_b_ := Lib.hid (B_b.out.below hb_)
            have B_u_ := Lib.hid (B_u.out.below hb_)
            have HB_ := Lib.hid (HB.out.trans (hb_.mono HB.out.size))
            clear R_a R_s R_b R_u B_g B_a B_s B_b B_u HB
            have R_a := R_a_
            have R_s := R_s_
            have R_b := R_b_
            have R_u := R_u_
            have B_g := B_g_
            have B_a := B_a_
            have B_s := B_s_
            have B_b := B_b_
            have B_u := B_u_
            have HB := HB_
            clear R_a_ R_s_ R_b_ R_u_ B_g_ B_a_ B_s_ B_b_ B_u_ HB_
            clear hb_
            go_upto_region 27 with fail
            go_cut [185] (fun sl wx => sl = .bool false ∧ Below w17.heap.size w17 wx)
            case first =>
              refine wp_region_noPanic ?_
              have cu_ := B_u.out.one.1
              have hul := B_u.out.lt
              refine wp_region_held_drew (S := fun W => W.cell? ⟨w14.heap.size, 0, none⟩ = some (.slice a_u 24 c_u) ∧ Below w17.heap.size w17 W) (by kernel_rfl) ⟨cu_, below_drewN' (Below.refl _ w17) 1⟩ (fun hHeld => ?_)
              clear cu_
              generalize w17.drew = Wd at *
              refine wpAnyH_take (i := 0) (oi := { dst := some 161, op := _, type := _, pos := _, after := _, guard := _ }) (v := .bool true) rfl (by kernel_rfl) (by kernel_rfl) (by kernel_rfl) (fun _ _ _ h => h) (Or.inl ⟨by rfl, ?_⟩) hHeld ?_
              · (intro w_ hSw; clear hSw; go_simp; first | done | with_reducible rfl | rfl | (intro h_; omega) | (simp only [IntKind.wrap, IntKind.bits, IntKind.signed]; omega) | (simp [IntKind.wrap, IntKind.bits, IntKind.signed]; omega))
              set_option linter.unusedSimpArgs false in try simp only [Act.put, List.setIfInBounds_toArray, List.set_cons_zero, List.set_cons_succ]
              refine wpAnyH_take (i := 1) (oi := { dst := some 162, op := _, type := _, pos := _, after := _, guard := _ }) (v := .bool false) rfl (by kernel_rfl) (by kernel_rfl) (by kernel_rfl) (fun _ _ _ h => h) (Or.inl ⟨by rfl, ?_⟩) hHeld ?_
              · (intro w_ hSw; clear hSw; go_simp; first | done | with_reducible rfl | rfl | (intro h_; omega) | (simp only [IntKind.wrap, IntKind.bits, IntKind.signed]; omega) | (simp [IntKind.wrap, IntKind.bits, IntKind.signed]; omega))
              set_option linter.unusedSimpArgs false in try simp only [Act.put, List.setIfInBounds_toArray, List.set_cons_zero, List.set_cons_succ]
              refine wpAnyH_take (i := 2) (oi := { dst := some 163, op := _, type := _, pos := _, after := _, guard := _ }) (v := .bool false) rfl (by kernel_rfl) (by kernel_rfl) (by kernel_rfl) (fun _ _ _ h => h) (Or.inl ⟨by rfl, ?_⟩) hHeld ?_
              · (intro w_ hSw; clear hSw; go_simp; first | done | with_reducible rfl | rfl | (intro h_; omega) | (simp only [IntKind.wrap, IntKind.bits, IntKind.signed]; omega) | (simp [IntKind.wrap, IntKind.bits, IntKind.signed]; omega))
              set_option linter.unusedSimpArgs false in try simp only [Act.put, List.setIfInBounds_toArray, List.set_cons_zero, List.set_cons_succ]
              refine wpAnyH_take (i := 3) (oi := { dst := some 164, op := _, type := _, pos := _, after := _, guard := _ }) (v := .bool true) rfl (by kernel_rfl) (by kernel_rfl) (by kernel_rfl) (fun _ _ _ h => h) (Or.inl ⟨by rfl, ?_⟩) hHeld ?_
              · (intro w_ hSw; clear hSw; go_simp; first | done | with_reducible rfl | rfl | (intro h_; omega) | (simp only [IntKind.wrap, IntKind.bits, IntKind.signed]; omega) | (simp [IntKind.wrap, IntKind.bits, IntKind.signed]; omega))
              set_option linter.unusedSimpArgs false in try simp only [Act.put, List.setIfInBounds_toArray, List.set_cons_zero, List.set_cons_succ]
              refine wpAnyH_take (i := 4) (oi := { dst := some 165, op := _, type := _, pos := _, after := _, guard := _ }) (v := .bool false) rfl (by kernel_rfl) (by kernel_rfl) (by kernel_rfl) (fun _ _ _ h => h) (Or.inl ⟨by rfl, ?_⟩) hHeld ?_
              · (intro w_ hSw; clear hSw; go_simp; first | done | with_reducible rfl | rfl | (intro h_; omega) | (simp only [IntKind.wrap, IntKind.bits, IntKind.signed]; omega) | (simp [IntKind.wrap, IntKind.bits, IntKind.signed]; omega))
              set_option linter.unusedSimpArgs false in try simp only [Act.put, List.setIfInBounds_toArray, List.set_cons_zero, List.set_cons_succ]
              refine wpAnyH_take (i := 5) (oi := { dst := some 166, op := _, type := _, pos := _, after := _, guard := _ }) (v := .bool false) rfl (by kernel_rfl) (by kernel_rfl) (by kernel_rfl) (fun _ _ _ h => h) (Or.inl ⟨by rfl, ?_⟩) hHeld ?_
              · (intro w_ hSw; clear hSw; go_simp; first | done | with_reducible rfl | rfl | (intro h_; omega) | (simp only [IntKind.wrap, IntKind.bits, IntKind.signed]; omega) | (simp [IntKind.wrap, IntKind.bits, IntKind.signed]; omega))
              set_option linter.unusedSimpArgs false in try simp only [Act.put, List.setIfInBounds_toArray, List.set_cons_zero, List.set_cons_succ]
              refine wpAnyH_take (i := 6) (oi := { dst := some 167, op := _, type := _, pos := _, after := _, guard := _ }) (v := .bool false) rfl (by kernel_rfl) (by kernel_rfl) (by kernel_rfl) (fun _ _ _ h => h) (Or.inl ⟨by rfl, ?_⟩) hHeld ?_
              · (intro w_ hSw; clear hSw; go_simp; first | done | with_reducible rfl | rfl | (intro h_; omega) | (simp only [IntKind.wrap, IntKind.bits, IntKind.signed]; omega) | (simp [IntKind.wrap, IntKind.bits, IntKind.signed]; omega))
              set_option linter.unusedSimpArgs false in try simp only [Act.put, List.setIfInBounds_toArray, List.set_cons_zero, List.set_cons_succ]
              refine wpAnyH_take (i := 7) (oi := { dst := some 168, op := _, type := _, pos := _, after := _, guard := _ }) (v := .bool true) rfl (by kernel_rfl) (by kernel_rfl) (by kernel_rfl) (fun _ _ _ h => h) (Or.inl ⟨by rfl, ?_⟩) hHeld ?_
              · (intro w_ hSw; clear hSw; go_simp; first | done | with_reducible rfl | rfl | (intro h_; omega) | (simp only [IntKind.wrap, IntKind.bits, IntKind.signed]; omega) | (simp [IntKind.wrap, IntKind.bits, IntKind.signed]; omega))
              set_option linter.unusedSimpArgs false in try simp only [Act.put, List.setIfInBounds_toArray, List.set_cons_zero, List.set_cons_succ]
              refine wpAnyH_take (i := 8) (oi := { dst := some 169, op := _, type := _, pos := _, after := _, guard := _ }) (v := .bool false) rfl (by kernel_rfl) (by kernel_rfl) (by kernel_rfl) (fun _ _ _ h => h) (Or.inl ⟨by rfl, ?_⟩) hHeld ?_
              · (intro w_ hSw; clear hSw; go_simp; first | done | with_reducible rfl | rfl | (intro h_; omega) | (simp only [IntKind.wrap, IntKind.bits, IntKind.signed]; omega) | (simp [IntKind.wrap, IntKind.bits, IntKind.signed]; omega))
              set_option linter.unusedSimpArgs false in try simp only [Act.put, List.setIfInBounds_toArray, List.set_cons_zero, List.set_cons_succ]
              refine wpAnyH_take (i := 9) (oi := { dst := some 170, op := _, type := _, pos := _, after := _, guard := _ }) (v := .bool false) rfl (by kernel_rfl) (by kernel_rfl) (by kernel_rfl) (fun _ _ _ h => h) (Or.inl ⟨by rfl, ?_⟩) hHeld ?_
              · (intro w_ hSw; clear hSw; go_simp; first | done | with_reducible rfl | rfl | (intro h_; omega) | (simp only [IntKind.wrap, IntKind.bits, IntKind.signed]; omega) | (simp [IntKind.wrap, IntKind.bits, IntKind.signed]; omega))
              set_option linter.unusedSimpArgs false in try simp only [Act.put, List.setIfInBounds_toArray, List.set_cons_zero, List.set_cons_succ]
              refine wpAnyH_take (i := 10) (oi := { dst := some 171, op := _, type := _, pos := _, after := _, guard := _ }) (v := .bool false) rfl (by kernel_rfl) (by kernel_rfl) (by kernel_rfl) (fun _ _ _ h => h) (Or.inl ⟨by rfl, ?_⟩) hHeld ?_
              · (intro w_ hSw; clear hSw; go_simp; first | done | with_reducible rfl | rfl | (intro h_; omega) | (simp only [IntKind.wrap, IntKind.bits, IntKind.signed]; omega) | (simp [IntKind.wrap, IntKind.bits, IntKind.signed]; omega))
              set_option linter.unusedSimpArgs false in try simp only [Act.put, List.setIfInBounds_toArray, List.set_cons_zero, List.set_cons_succ]
              refine wpAnyH_take (i := 11) (oi := { dst := some 172, op := _, type := _, pos := _, after := _, guard := _ }) (v := .int .i64 n1) rfl (by kernel_rfl) (by kernel_rfl) (by kernel_rfl) (fun _ _ _ h => h) (Or.inl ⟨by rfl, ?_⟩) hHeld ?_
              · (intro w_ hSw; clear hSw; go_simp; first | done | with_reducible rfl | rfl | (intro h_; omega) | (simp only [IntKind.wrap, IntKind.bits, IntKind.signed]; omega) | (simp [IntKind.wrap, IntKind.bits, IntKind.signed]; omega))
              set_option linter.unusedSimpArgs false in try simp only [Act.put, List.setIfInBounds_toArray, List.set_cons_zero, List.set_cons_succ]
              refine wpAnyH_take (i := 12) (oi := { dst := some 173, op := _, type := _, pos := _, after := _, guard := _ }) (v := .int .i64 n2) rfl (by kernel_rfl) (by kernel_rfl) (by kernel_rfl) (fun _ _ _ h => h) (Or.inl ⟨by rfl, ?_⟩) hHeld ?_
              · (intro w_ hSw; clear hSw; go_simp; first | done | with_reducible rfl | rfl | (intro h_; omega) | (simp only [IntKind.wrap, IntKind.bits, IntKind.signed]; omega) | (simp [IntKind.wrap, IntKind.bits, IntKind.signed]; omega))
              set_option linter.unusedSimpArgs false in try simp only [Act.put, List.setIfInBounds_toArray, List.set_cons_zero, List.set_cons_succ]
              refine wpAnyH_take (i := 13) (oi := { dst := some 174, op := _, type := _, pos := _, after := _, guard := _ }) (v := .int .i64 (n1 + n2)) rfl (by kernel_rfl) (by kernel_rfl) (by kernel_rfl) (fun _ _ _ h => h) (Or.inl ⟨by rfl, ?_⟩) hHeld ?_
              · (intro w_ hSw; clear hSw; go_simp; first | done | with_reducible rfl | rfl | (intro h_; omega) | (simp only [IntKind.wrap, IntKind.bits, IntKind.signed]; omega) | (simp [IntKind.wrap, IntKind.bits, IntKind.signed]; omega))
              set_option linter.unusedSimpArgs false in try simp only [Act.put, List.setIfInBounds_toArray, List.set_cons_zero, List.set_cons_succ]
              refine wpAnyH_take (i := 14) (oi := { dst := some 175, op := _, type := _, pos := _, after := _, guard := _ }) (v := .int .i64 n3) rfl (by kernel_rfl) (by kernel_rfl) (by kernel_rfl) (fun _ _ _ h => h) (Or.inl ⟨by rfl, ?_⟩) hHeld ?_
              · (intro w_ hSw; clear hSw; go_simp; first | done | with_reducible rfl | rfl | (intro h_; omega) | (simp only [IntKind.wrap, IntKind.bits, IntKind.signed]; omega) | (simp [IntKind.wrap, IntKind.bits, IntKind.signed]; omega))
              set_option linter.unusedSimpArgs false in try simp only [Act.put, List.setIfInBounds_toArray, List.set_cons_zero, List.set_cons_succ]
              refine wpAnyH_take (i := 15) (oi := { dst := some 176, op := _, type := _, pos := _, after := _, guard := _ }) (v := .bool false) rfl (by kernel_rfl) (by kernel_rfl) (by kernel_rfl) (fun _ _ _ h => h) (Or.inl ⟨by rfl, ?_⟩) hHeld ?_
              · (intro w_ hSw; clear hSw; go_simp; first | done | with_reducible rfl | rfl | (intro h_; omega) | (simp only [IntKind.wrap, IntKind.bits, IntKind.signed]; omega) | (simp [IntKind.wrap, IntKind.bits, IntKind.signed]; omega))
              set_option linter.unusedSimpArgs false in try simp only [Act.put, List.setIfInBounds_toArray, List.set_cons_zero, List.set_cons_succ]
              refine wpAnyH_take (i := 16) (oi := { dst := some 177, op := _, type := _, pos := _, after := _, guard := _ }) (v := .bool false) rfl (by kernel_rfl) (by kernel_rfl) (by kernel_rfl) (fun _ _ _ h => h) (Or.inl ⟨by rfl, ?_⟩) hHeld ?_
              · (intro w_ hSw; clear hSw; go_simp; first | done | with_reducible rfl | rfl | (intro h_; omega) | (simp only [IntKind.wrap, IntKind.bits, IntKind.signed]; omega) | (simp [IntKind.wrap, IntKind.bits, IntKind.signed]; omega))
              set_option linter.unusedSimpArgs false in try simp only [Act.put, List.setIfInBounds_toArray, List.set_cons_zero, List.set_cons_succ]
              refine wpAnyH_take (i := 17) (oi := { dst := some 178, op := _, type := _, pos := _, after := _, guard := _ }) (v := .bool false) rfl (by kernel_rfl) (by kernel_rfl) (by kernel_rfl) (fun _ _ _ h => h) (Or.inl ⟨by rfl, ?_⟩) hHeld ?_
              · (intro w_ hSw; clear hSw; go_simp; first | done | with_reducible rfl | rfl | (intro h_; omega) | (simp only [IntKind.wrap, IntKind.bits, IntKind.signed]; omega) | (simp [IntKind.wrap, IntKind.bits, IntKind.signed]; omega))
              set_option linter.unusedSimpArgs false in try simp only [Act.put, List.setIfInBounds_toArray, List.set_cons_zero, List.set_cons_succ]
              refine wpAnyH_take (i := 18) (oi := { dst := some 179, op := _, type := _, pos := _, after := _, guard := _ }) (v := .pointer (some ⟨w14.heap.size, 0, none⟩)) rfl (by kernel_rfl) (by kernel_rfl) (by kernel_rfl) (fun _ _ _ h => h) (Or.inl ⟨by rfl, ?_⟩) hHeld ?_
              · (intro w_ hSw; clear hSw; go_simp; first | done | with_reducible rfl | rfl | (intro h_; omega) | (simp only [IntKind.wrap, IntKind.bits, IntKind.signed]; omega) | (simp [IntKind.wrap, IntKind.bits, IntKind.signed]; omega))
              set_option linter.unusedSimpArgs false in try simp only [Act.put, List.setIfInBounds_toArray, List.set_cons_zero, List.set_cons_succ]
              refine wpAnyH_take (i := 19) (oi := { dst := some 180, op := _, type := _, pos := _, after := _, guard := _ }) (v := .slice a_u 24 c_u) rfl (by kernel_rfl) (by kernel_rfl) (by kernel_rfl) (fun _ _ _ h => h) (Or.inl ⟨by rfl, ?_⟩) hHeld ?_
              · (intro w_ hSw; have c_ := hSw.1; clear hSw; go_simp; first | done | with_reducible rfl | rfl | (intro h_; omega) | (simp only [IntKind.wrap, IntKind.bits, IntKind.signed]; omega) | (simp [IntKind.wrap, IntKind.bits, IntKind.signed]; omega))
              set_option linter.unusedSimpArgs false in try simp only [Act.put, List.setIfInBounds_toArray, List.set_cons_zero, List.set_cons_succ]
              refine wpAnyH_ready (rs := [20]) (by kernel_rfl) (by simp) ?_
              refine AllReadyH.cons rfl (fun K hK => ?_) ?_
              rotate_left
              · exact AllReadyH.nil
              try rw [if_pos (by rfl)]
              go_simp
              refine (HH.out _).mono ?_
              rintro e wA ⟨gA, rfl, hoA, hbA⟩
              have hs := hHeld.2.size
              have g0 : wA.cell? ⟨w14.heap.size, 0, none⟩ = some (.slice a_u 24 c_u) ∧ Below w17.heap.size w17 wA := ⟨(hbA.cell (p := ⟨w14.heap.size, 0, none⟩) (Nat.lt_of_lt_of_le hul hs)).trans hHeld.1, hHeld.2.trans (hbA.mono hs)⟩
              have HoA := Lib.hid hoA
              clear hoA hbA hHeld hs
              go_wp2_with fail
              refine hK.out _ _ g0 (fun hHeld => ?_)
              clear hK K g0
              set_option linter.unusedSimpArgs false in try simp only [Act.put, List.setIfInBounds_toArray, List.set_cons_zero, List.set_cons_succ]
              refine wpAnyH_take (i := 21) (oi := { dst := some 182, op := _, type := _, pos := _, after := _, guard := _ }) (v := .slice (some ⟨gA, 0, none⟩) 24 24) rfl (by kernel_rfl) (by kernel_rfl) (by kernel_rfl) (fun _ _ _ h => h) (Or.inl ⟨by rfl, ?_⟩) hHeld ?_
              · (intro w_ hSw; have c_ := field_rows (some ⟨gA, 0, none⟩) 24 24 w_; clear hSw; go_simp; first | done | with_reducible rfl | rfl | (intro h_; omega) | (simp only [IntKind.wrap, IntKind.bits, IntKind.signed]; omega) | (simp [IntKind.wrap, IntKind.bits, IntKind.signed]; omega))
              set_option linter.unusedSimpArgs false in try simp only [Act.put, List.setIfInBounds_toArray, List.set_cons_zero, List.set_cons_succ]
              refine wpAnyH_ready (rs := [22]) (by kernel_rfl) (by simp) ?_
              refine AllReadyH.cons rfl (fun K hK => ?_) ?_
              rotate_left
              · exact AllReadyH.nil
              try rw [if_pos (by rfl)]
              go_simp
              refine (rInts_b S 24 _ _ _ _ _ (R_u.out.below hHeld.2) HoA.out (by omega)).mono ?_
              rintro e wB ⟨rfl, hbB⟩
              have hs := hHeld.2.size
              have g0 : wB.cell? ⟨w14.heap.size, 0, none⟩ = some (.slice a_u 24 c_u) ∧ Below w17.heap.size w17 wB := ⟨(hbB.cell (p := ⟨w14.heap.size, 0, none⟩) (Nat.lt_of_lt_of_le hul hs)).trans hHeld.1, hHeld.2.trans (hbB.mono hs)⟩
              clear hbB hHeld hs
              go_wp2_with fail
              refine hK.out _ _ g0 (fun hHeld => ?_)
              clear hK K g0
              set_option linter.unusedSimpArgs false in try simp only [Act.put, List.setIfInBounds_toArray, List.set_cons_zero, List.set_cons_succ]
              refine wpAnyH_take (i := 23) (oi := { dst := some 184, op := _, type := _, pos := _, after := _, guard := _ }) (v := .bool false) rfl (by kernel_rfl) (by kernel_rfl) (by kernel_rfl) (fun _ _ _ h => h) (Or.inl ⟨by rfl, ?_⟩) hHeld ?_
              · (intro w_ hSw; clear hSw; go_simp; first | done | with_reducible rfl | rfl | (intro h_; omega) | (simp only [IntKind.wrap, IntKind.bits, IntKind.signed]; omega) | (simp [IntKind.wrap, IntKind.bits, IntKind.signed]; omega))
              set_option linter.unusedSimpArgs false in try simp only [Act.put, List.setIfInBounds_toArray, List.set_cons_zero, List.set_cons_succ]
              refine wpAnyH_take (i := 24) (oi := { dst := some 185, op := _, type := _, pos := _, after := _, guard := _ }) (v := .bool false) rfl (by kernel_rfl) (by kernel_rfl) (by kernel_rfl) (fun _ _ _ h => h) (Or.inl ⟨by rfl, ?_⟩) hHeld ?_
              · (intro w_ hSw; clear hSw; go_simp; first | done | with_reducible rfl | rfl | (intro h_; omega) | (simp only [IntKind.wrap, IntKind.bits, IntKind.signed]; omega) | (simp [IntKind.wrap, IntKind.bits, IntKind.signed]; omega))
              set_option linter.unusedSimpArgs false in try simp only [Act.put, List.setIfInBounds_toArray, List.set_cons_zero, List.set_cons_succ]
              refine wpAnyH_done (by kernel_rfl) ?_ _
              refine NoPanic.normal ?_
              have HS9 := Lib.hid hHeld.2
              clear hHeld HoA
              go_wp2_with fail
              go_meet
              case rel => exact ⟨rfl, HS9.out⟩
            case rest =>
              obtain ⟨rfl, hb_⟩ := hcut
              have HB2 := HB.out.trans (hb_.mono HB.out.size)
              go_wp2_with fail
              go_meet
              case rel => exact HB2
        case rest =>
          try clear fx_a
          try clear d0 d1 d2 d3
          clear R_a R_s B_a B_s B_g HS HI HZ eok
          try clear hX
          clear HB
          have HB := Lib.hid hcut
          clear hcut
          go_wp2_with fail
          refine (HD3.out _ HB.out).mono ?_
          rintro e w29 ⟨⟨o, n, rfl⟩, hb_⟩
          have HB_ := Lib.hid (HB.out.trans (hb_.mono HB.out.size))
          clear HB hb_
          have HB := HB_
          clear HB_
          obtain ⟨v, r3, C1, C2, hv⟩ : ∃ (v : Int) (r3 : Bool), (∀ W, Below w.heap.size w W → Calls Tryd.prog 27 #[.int .i64 o, .int .i64 n] W fun e w' => e = .returned (.tuple #[.int .i64 v, .bool r3]) ∧ Below W.heap.size W w') ∧ (∀ W, Calls Tryd.prog 28 #[.int .i64 o, .int .i64 n] W fun e w' => e = .returned (.tuple #[.int .i64 v, .bool r3]) ∧ Below W.heap.size W w') ∧ (r3 = true → decide (v < n) = true) := by
            refine ⟨_, _, fun W h => turns_impl o n W (HT.out.below h), fun W => turns_spec o n W, fun hr => ?_⟩
            rw [hr, if_pos rfl]
            unfold okTurn at hr
            simp only [Bool.and_eq_true, decide_eq_true_eq] at hr
            have := turnZ_le o (n.toNat - 1)
            exact decide_eq_true (by omega)
          have H1 := Lib.hid C1
          have H2 := Lib.hid C2
          have HV := Lib.hid hv
          have e3 : (r3 == r3) = true := by simp
          have ev : (v == v) = true := by simp
          clear C1 C2 hv
          go_wp2_with fail
          refine (H1.out _ HB.out).mono ?_
          rintro e w30 ⟨rfl, hb_⟩
          have z_w30 := hb_.size
          try simp only [World.size_alloc] at z_w30
          have HB_ := Lib.hid (HB.out.trans (hb_.mono HB.out.size))
          clear  HB
          have HB := HB_
          clear  HB_
          clear hb_
          go_wp2_with fail
          refine (H2.out _).mono ?_
          rintro e w31 ⟨rfl, hb_⟩
          have z_w31 := hb_.size
          try simp only [World.size_alloc] at z_w31
          have HB_ := Lib.hid (HB.out.trans (hb_.mono HB.out.size))
          clear  HB
          have HB := HB_
          clear  HB_
          clear hb_
          cases r3
          · clear HV
            go_wp2_with fail
            go_ret
            exact ⟨by first | rfl | simp, HB.out⟩
          · have hlt := HV.out rfl
            clear HV
            go_wp2_with fail
            go_ret
            exact ⟨by first | rfl | simp, HB.out⟩

/-! ### THE ROW's STEP: WRITTEN OUT: LEAVE IT -/
set_option maxRecDepth 100000 in
theorem lifted (os : Os) (started : os.Started) (H : Type) (enc : TypeId × Value → H) :
    ReturnsInHanded {} Tryd.checked os 3 .any (fun w args => (Rows.fnLinesSpec.pre enc Tryd.prog Tryd.f3 Rows.fnLinesRow.domain false w args ∧ laidMetH Tryd.prog laidL w) ∧ sizedMet enc Tryd.prog Tryd.f3 (OpenSpec.ofChange Rows.fnLinesSpec) false w args)
      (Rows.fnLinesSpec.post enc Tryd.prog Tryd.f3 false true false false) := by
  refine returnsInHanded_of_change_and (C := Tryd.checked) (X := fun w _ => laidMetH Tryd.prog laidL w) (fun _ _ _ hh h => h.of_heap hh) own started (by kernel_rfl) Tryd.func3
    (ChangeSpec.witness_shaped (enc := enc) (C := Tryd.checked) (os := os) (X := fun w _ => laidMetH Tryd.prog laidL w) false (World.doorLaid Tryd.prog 400 os) #[.slice none 0 0] 8 rfl (World.shaped_of_RefB (by kernel_rfl) (by kernel_rfl)) (by kernel_rfl) (by kernel_rfl) (by kernel_rfl) (door_met os _)) ?_
  intro W base args ds gs before hval0 hW _ hsz0 hL _
  have hval : ∀ (j : Nat) t v, Tryd.f3.params[j]? = some t → args[j]? = some v → Value.okWide Tryd.prog W .any base t v := hval0
  have hW' := hW
  obtain ⟨p, q, hA0, hV, rfl, hfz, hnd⟩ := hW
  have hA : DataW.TrodAll enc Tryd.prog W 0 (fun _ => true) true Tryd.f3.params.toList args.toList ds p := hA0
  rw [Tryd.params3] at hA hval
  obtain ⟨v0, vs0, d0, ds0, p0, q0, hargs, rfl, rfl, h0, r0⟩ := trodAll_cons hA
  obtain ⟨rfl, rfl, rfl⟩ := trodAll_nil r0
  obtain rfl : args = #[v0] := by cases args; simp_all
  obtain ⟨gv, tv, csv, fuelv, dv, pv, hgs, _⟩ := trodVars_one hV
  subst hgs
  obtain ⟨a0, len0, cap0, rfl⟩ := okWide_slice Tryd.underlying22 (hval 0 22 v0 rfl rfl)
  have k0 := h0
  have lt0 : ∀ x ∈ p0, x.block < W.heap.size := by obtain ⟨m, hm⟩ := k0; exact DataW.trod_lt m _ _ _ hm
  obtain ⟨z0, w0⟩ : ∃ zs, IsRow .u8 W a0 len0 cap0 zs := by
    obtain ⟨fuel, hf⟩ := h0
    rcases open_ints Tryd.underlying22 Tryd.underlying5 (by kernel_rfl) hf with ⟨hcs, _⟩ | ⟨x, l, c, zs, hcs, _, hl, hm, hz, _, hcell, hwz⟩
    · simp [Value.cells] at hcs
      obtain ⟨rfl, rfl, rfl⟩ := hcs
      exact ⟨[], .inl ⟨rfl, rfl, rfl, rfl⟩⟩
    · simp [Value.cells] at hcs
      obtain ⟨rfl, rfl, rfl⟩ := hcs
      exact ⟨zs, .inr ⟨_, rfl, hl, hm, by simpa using hz, hcell, hwz⟩⟩
  clear hA0 hval0
  refine (walk a0 len0 cap0 z0 W w0 hL).mono fun e W' ⟨he, bel⟩ => ?_
  subst he
  exact ⟨_, rfl, _, _, _, [], _, q, hW', trodAll_mk1 (shut_bool Tryd.underlying4 _), (trodAll_cons_mk (Below.trod laidOut (by kernel_rfl) (of_decide_eq_true (by kernel_rfl)) k0 bel lt0) trodAll_mk0), Below.trodVars (by kernel_rfl) bel (by kernel_rfl) hV, bel.frame _, fun h => by cases h⟩

theorem over : Rows.fnLinesRow.holds Tryd.pinned (OpenSpec.ofChange Rows.fnLinesSpec) :=
  OpenClaim.holds_of_wide 3 Tryd.f3 rfl rfl rfl rfl rfl rfl rfl ⟨rfl, rfl, rfl, rfl, rfl⟩ rfl rfl rfl rfl rfl (by kernel_rfl) Tryd.func3 (by kernel_rfl)
    (of_decide_eq_true (by kernel_rfl)) (by unfold Func.isWrapper; first | (rw [if_pos (by decide +kernel)]; kernel_rfl) | (rw [if_neg (by decide +kernel)]; exact ⟨rfl, rfl⟩))
    (fun os started H enc _ => lifted os started H enc)

/-- The row's statement. -/
theorem proved : Rows.FnLinesSaid :=
  over

/-- THE TIED CARD: the listed variables are those that the program's own text lays. -/
theorem card : Rows.FnLinesCardSaid :=
  Claim7.holds_tied_plain_at .later [] [.data] true (true, "17332f113ef768b003665e4ba820d8bca6e43642aa79ba398e66b0f33fe09813") false
    proved (fun _ h => by cases h) (by kernel_rfl) (fun _ h => by cases h) fnLines_row_tie rfl ⟨rfl, rfl⟩ (by kernel_rfl) rfl
    (fun f fn hf hfn => by
      obtain rfl : f = 3 := Option.some.inj ((show Tryd.prog.funcNamed "loop.example/g00884/laws.FnLines" = some 3 by kernel_rfl).symm.trans hf) |>.symm
      obtain rfl : fn = Tryd.f3 := (Option.some.inj (Tryd.func3.symm.trans hfn)).symm
      exact ⟨by kernel_rfl, fun j t ht => by
        rw [Tryd.params3] at ht
        have hm : t ∈ [22] := by
          have := Array.mem_of_getElem? ht
          first | simpa using this | (simp at this ⊢; omega) | (simp at this ⊢; rcases this with h | h <;> simp [h])
        have hall : ([22].all fun u => !Tryd.prog.wantsStandIn u) = true := by kernel_rfl
        exact (show Tryd.prog.wantsStandIn t = false by simpa using List.all_eq_true.1 hall t hm)⟩)
    (by kernel_rfl)
#print axioms card
end Go.Proofs.YtkhpgggaaldhhaaDoor.fnLines
