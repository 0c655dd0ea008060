/- FnCurves: at every slice of bytes the law returns true: the tincture of a cell is that of its part, no cell is swung by a straight line, and ordinaries with straight lines are those of the shield. The card ties the table of offsets to the program's text. No condition. -/
import Derived.Test.YtkhpgggaaldhhaaDoorRows
import Derived.Test.YtkhpgggaaldhhaaDoorCards
import Derived.Test.YtkhpgggaaldhhaaDoorTie
import Derived.WalkKit
import Derived.ProofKit
import Derived.OpenShut
import Derived.ShutString
import Derived.Test.YtkhpgggaaldhhaaDoorC10E
import Derived.Test.YtkhpgggaaldhhaaDoorC9L
import Derived.Deep.DeepCutAuto
import Derived.LaidMore
import Derived.Stop.Joined
import Derived.SevenTiedAt
import Derived.OpenVars
import Derived.ChangeVars
import Derived.ChangeOld
import Derived.Below
namespace Go.Proofs.YtkhpgggaaldhhaaDoor.fnCurves
open Go.ChangeShapes Go.WideShapes Go.ChangeAt Go.RowKit
open Go.ChangeMaps (open_string shut_string)
set_option linter.unusedVariables false

def laidL : List (String × DataW Unit) := [("loop.example/g00884/impl.lineOffsets", Rows.laid_loop_example_g00884_impl_lineOffsets)]

/-- The door's own heap meets the condition. -/
theorem door_met (os : Os) (args : Array Value) : laidMetH Tryd.prog laidL ((World.doorLaid Tryd.prog 400 os).forCall (fun _ _ => 0) ⟨#[], args, []⟩).memory :=
  laidMetH_of_parts3 (fuel := 8) (laidMet_of_run' 8 (by kernel_rfl) (by kernel_rfl)) (by kernel_rfl) (by kernel_rfl)

theorem own : ownKnob Tryd.prog.godebug = none := by kernel_rfl
theorem laidOut : laidOutB Tryd.prog = true := by kernel_rfl

/-- WHAT THE WALK IS TOLD OF A SLICE OF INTEGERS THAT CAME IN: it is nil; or it leads to a row of 'cap' cells, the numbers 'zs' (the first 'len' are its elements, the rest its spare room), each fitting its kind. -/
def IsRow (k : IntKind) (w : World) (a : Option Addr) (len cap : Nat) (zs : List Int) : Prop :=
  (a = none ∧ len = 0 ∧ cap = 0 ∧ zs = []) ∨
  ∃ x, a = some x ∧ len ≤ cap ∧ cap ≤ maxLen ∧ zs.length = cap ∧ (∀ i, i < zs.length → w.cell? (x.add i) = some (.int k (zs.getD i 0))) ∧ ∀ n ∈ zs, (Lit.int k n).wf = true

/-! ### STEP 1: THE WALK: the Go text returns true, AND WRITES NOTHING THAT WAS THERE: 'Below w.heap.size w w'' (Derived/Below.lean: '.refl', '.alloc', '.drew', '.setCell' at a new block, '.trans'). Open each 'IsRow' by 'rcases' AHEAD of 'go_enter'; part every test ahead of the walk. -/
set_option maxHeartbeats 16000000 in
set_option maxRecDepth 100000 in
theorem walk (a0 : Option Addr) (len0 cap0 : Nat) (z0 : List Int) (w : World) (w0 : IsRow .u8 w a0 len0 cap0 z0) (hL : laidMetH Tryd.prog laidL w) :
    Calls Tryd.prog 4 #[.slice a0 len0 cap0] w fun e w' => e = .returned (.bool true) ∧ Below w.heap.size w w' := by
  have hT : OffsLie w := offsH hL
  have hR : RdB w w.heap.size a0 len0 := by
    rcases w0 with ⟨rfl, rfl, rfl, rfl⟩ | ⟨⟨b, o, spot⟩, rfl, hl, hm, hz, hc, hwf⟩
    · intro h; omega
    · refine rdb_ofG (fun k hk => hc k (by omega)) (fun k hk => ?_)
      have e2 : z0.getD k 0 = z0[k]'(by omega) := by simp [List.getD, show k < z0.length by omega]
      have h2 := hwf (z0.getD k 0) (by rw [e2]; exact List.getElem_mem _)
      exact (by simpa [Lit.wf] using h2)
  clear w0
  have hB := rBig_any a0 len0 cap0 w
  by_cases hbig : (65536 : Int) < (len0 : Int)
  · have e1 : decide ((65536 : Int) < (len0 : Int)) = true := by simp; omega
    simp only [e1] at hB
    clear hR
    go_enter Tryd.func4, Tryd.ntmps4
    go_wp2_with (go_at_call 13; refine hB.mono ?_; rintro e w' ⟨rfl, rfl⟩)
    go_ret
    exact ⟨rfl, Below.refl _ _⟩
  · have e1 : decide ((65536 : Int) < (len0 : Int)) = false := by simp; omega
    simp only [e1] at hB
    have hn : len0 ≤ 65536 := by omega
    have cd := drawFT_any a0 len0 cap0 w hR hn
    have HD2 := Lib.hid (fun W (h : Below w.heap.size w W) => drawSW_any a0 len0 cap0 W (hR.on h) hn)
    have HD3 := Lib.hid (fun W (h : Below w.heap.size w W) => drawLOrd_any a0 len0 cap0 W (hR.on h) hn)
    have HT := Lib.hid hT
    clear hR hT hL
    go_enter Tryd.func4, Tryd.ntmps4
    go_wp2_with (go_at_call 13; refine hB.mono ?_; rintro e w' ⟨rfl, rfl⟩)
    refine cd.mono ?_
    rintro e w0_ ⟨⟨d, l, f, s, x, y, rfl⟩, hb0_⟩
    have HB := Lib.hid hb0_
    clear hB cd hb0_
    obtain ⟨m, q, r, C1, C2, C3, C4, hq⟩ : ∃ (m q : Int) (r : Bool), (∀ W, Below w.heap.size w W → Calls Tryd.prog 30 #[.agg #[.int .i64 d, .int .i64 l, .int .i64 f, .int .i64 s], .int .i64 x, .int .i64 y] W fun e w' => e = .returned (.tuple #[.int .i64 m, .bool r]) ∧ Below W.heap.size W w') ∧ (∀ W, Below w.heap.size w W → Calls Tryd.prog 31 #[.agg #[.int .i64 d, .int .i64 l, .int .i64 f, .int .i64 s], .int .i64 x, .int .i64 y] W fun e w' => e = .returned (.tuple #[.int .i64 q, .bool r]) ∧ Below W.heap.size W w') ∧ (∀ W, Calls Tryd.prog 32 #[.agg #[.int .i64 d, .int .i64 l, .int .i64 f, .int .i64 s], .int .i64 x, .int .i64 y] W fun e w' => e = .returned (.tuple #[.int .i64 m, .bool r]) ∧ Below W.heap.size W w') ∧ (∀ W, Calls Tryd.prog 33 #[.agg #[.int .i64 d, .int .i64 l, .int .i64 f, .int .i64 s], .int .i64 x, .int .i64 y] W fun e w' => e = .returned (.tuple #[.int .i64 q, .bool r]) ∧ Below W.heap.size W w') ∧ (r = true → (q = 0 ∧ m = f) ∨ (q = 1 ∧ m = s)) := by
      refine ⟨_, _, _, fun W h => ftinc_impl d l f s x y W (HT.out.below h), fun W h => fpart_impl d l f s x y W (HT.out.below h), fun W => ftinc_spec d l f s x y W, fun W => fpart_spec d l f s x y W, fun hr => ?_⟩
      unfold tincA
      rw [hr, if_pos rfl, if_pos rfl]
      unfold partA
      split
      · left; exact ⟨rfl, if_pos rfl⟩
      · right; exact ⟨rfl, if_neg (by decide)⟩
    have H1 := Lib.hid C1
    have H2 := Lib.hid C2
    have H3 := Lib.hid C3
    have H4 := Lib.hid C4
    have er : (r != r) = false := by simp
    have em : (m != m) = false := by simp
    have eq : (q != q) = false := by simp
    have HQ := Lib.hid hq
    clear C1 C2 C3 C4 hq
    have HB_ := Lib.hid (HB.out.alloc HB.out.size (.cells #[.int .i64 d, .int .i64 l, .int .i64 f, .int .i64 s] 30 (0, 0)))
    clear  HB
    have HB := HB_
    clear  HB_
    have B_f := Lib.hid (BoxF.new w0_ [.int .i64 d, .int .i64 l, .int .i64 f, .int .i64 s] 30)
    go_wp2_with fail
    refine (H1.out _ HB.out).mono ?_
    rintro e w1 ⟨rfl, hb_⟩
    have z_w1 := hb_.size
    try simp only [World.size_alloc] at z_w1
    have B_f_ := Lib.hid (B_f.out.below hb_)
    have HB_ := Lib.hid (HB.out.trans (hb_.mono HB.out.size))
    clear B_f HB
    have B_f := B_f_
    have HB := HB_
    clear B_f_ HB_
    clear hb_
    have d0 := B_f.out.at 0
    have d1 := B_f.out.at 1
    have d2 := B_f.out.at 2
    have d3 := B_f.out.at 3
    simp only [List.getElem?_cons_zero, List.getElem?_cons_succ] at d0 d1 d2 d3
    go_wp2_with fail
    clear d0 d1 d2 d3 
    refine (H2.out _ HB.out).mono ?_
    rintro e w2 ⟨rfl, hb_⟩
    have z_w2 := hb_.size
    try simp only [World.size_alloc] at z_w2
    have B_f_ := Lib.hid (B_f.out.below hb_)
    have HB_ := Lib.hid (HB.out.trans (hb_.mono HB.out.size))
    clear B_f HB
    have B_f := B_f_
    have HB := HB_
    clear B_f_ HB_
    clear hb_
    have d0 := B_f.out.at 0
    have d1 := B_f.out.at 1
    have d2 := B_f.out.at 2
    have d3 := B_f.out.at 3
    simp only [List.getElem?_cons_zero, List.getElem?_cons_succ] at d0 d1 d2 d3
    go_wp2_with fail
    clear d0 d1 d2 d3 
    refine (H3.out _).mono ?_
    rintro e w3 ⟨rfl, hb_⟩
    have z_w3 := hb_.size
    try simp only [World.size_alloc] at z_w3
    have B_f_ := Lib.hid (B_f.out.below hb_)
    have HB_ := Lib.hid (HB.out.trans (hb_.mono HB.out.size))
    clear B_f HB
    have B_f := B_f_
    have HB := HB_
    clear B_f_ HB_
    clear hb_
    have d0 := B_f.out.at 0
    have d1 := B_f.out.at 1
    have d2 := B_f.out.at 2
    have d3 := B_f.out.at 3
    simp only [List.getElem?_cons_zero, List.getElem?_cons_succ] at d0 d1 d2 d3
    go_wp2_with fail
    clear d0 d1 d2 d3 
    refine (H4.out _).mono ?_
    rintro e w4 ⟨rfl, hb_⟩
    have z_w4 := hb_.size
    try simp only [World.size_alloc] at z_w4
    have B_f_ := Lib.hid (B_f.out.below hb_)
    have HB_ := Lib.hid (HB.out.trans (hb_.mono HB.out.size))
    clear B_f HB
    have B_f := B_f_
    have HB := HB_
    clear B_f_ HB_
    clear hb_
    go_upto_region 10 with fail
    go_cut [103] (fun sx wx => sx = .bool false ∧ Below w4.heap.size w4 wx)
    case first =>
      have d0 := B_f.out.at 0
      have d1 := B_f.out.at 1
      have d2 := B_f.out.at 2
      have d3 := B_f.out.at 3
      simp only [List.getElem?_cons_zero, List.getElem?_cons_succ] at d0 d1 d2 d3
      cases r
      · go_wp2_with fail
        go_meet
        case rel => exact ⟨rfl, Below.refl _ _⟩
      · rcases HQ.out rfl with ⟨rfl, rfl⟩ | ⟨rfl, rfl⟩
        all_goals
          go_wp2_with fail
          go_meet
          case rel => exact ⟨rfl, Below.refl _ _⟩
    case rest =>
      obtain ⟨rfl, hb_⟩ := hcut
      have HB_ := Lib.hid (HB.out.trans (hb_.mono HB.out.size))
      clear HB hb_
      have HB := HB_
      clear HB_
      clear H1 H2 H3 H4 HQ er em eq B_f
      go_wp2_with fail
      refine (HD2.out _ HB.out).mono ?_
      rintro e w5 ⟨⟨d, l, f, s, rfl⟩, hb_⟩
      have HB_ := Lib.hid (HB.out.trans (hb_.mono HB.out.size))
      clear HB hb_
      have HB := HB_
      clear HB_
      obtain ⟨X, n, ok, hX, CS, CI, hz⟩ : ∃ (X : List Int) (n : Nat) (ok : Bool), n ≤ 24 ∧ (∀ W, Calls Tryd.prog 36 #[.agg #[.int .i64 d, .int .i64 l, .int .i64 f, .int .i64 s]] W (AnsRB W X n ok)) ∧ (∀ W, Below w.heap.size w W → Calls Tryd.prog 35 #[.agg #[.int .i64 d, .int .i64 l, .int .i64 f, .int .i64 s]] W (AnsRB W X n ok)) ∧ (ok = true → l = 0 → n = 24 ∧ RowKit.Hid (goodR X = true) ∧ RowKit.Hid (((areaTo X 24 : Nat) : Int) = 0)) := by
        by_cases h : FOk d l f s
        · refine ⟨_, 24, true, by omega, fun W => swung_spec d l f s W h, fun W hb => swung_impl d l f s W (HT.out.below hb) h, fun _ h0 => ⟨rfl, ?_, ?_⟩⟩
          · exact Lib.hid (good_reg _)
          · subst h0; exact Lib.hid (by rw [swung_zero, area_zero 24 (by omega)]; rfl)
        · exact ⟨[], 0, false, by omega, fun W => swung_spec_no d l f s W h, fun W hb => swung_impl_no d l f s W h, fun h => by cases h⟩
      have eok : (ok != ok) = false := by simp
      have HS := Lib.hid CS
      have HI := Lib.hid CI
      have HZ := Lib.hid hz
      clear CS CI hz
      have HB_ := Lib.hid (HB.out.alloc HB.out.size (.cells #[.int .i64 d, .int .i64 l, .int .i64 f, .int .i64 s] 30 (0, 0)))
      clear  HB
      have HB := HB_
      clear  HB_
      have B_g := Lib.hid (BoxF.new w5 [.int .i64 d, .int .i64 l, .int .i64 f, .int .i64 s] 30)
      have d0 := B_g.out.at 0
      have d1 := B_g.out.at 1
      have d2 := B_g.out.at 2
      have d3 := B_g.out.at 3
      simp only [List.getElem?_cons_zero, List.getElem?_cons_succ] at d0 d1 d2 d3
      go_wp2_with fail
      clear d0 d1 d2 d3
      refine (HI.out _ HB.out).mono ?_
      rintro e w6 ⟨a_a, c_a, rfl, ho_, hb_⟩
      have z_w6 := hb_.size
      try simp only [World.size_alloc] at z_w6
      have B_g_ := Lib.hid (B_g.out.below hb_)
      have HB_ := Lib.hid (HB.out.trans (hb_.mono HB.out.size))
      clear B_g HB
      have B_g := B_g_
      have HB := HB_
      clear B_g_ HB_
      have R_a := Lib.hid ho_.rd
      clear ho_ hb_
      have R_a_ := Lib.hid (R_a.out.below ((Below.refl _ w6).alloc (Nat.le_refl _) (.cells #[.slice a_a n c_a] 35 (0, 0))))
      have B_g_ := Lib.hid (B_g.out.alloc (.cells #[.slice a_a n c_a] 35 (0, 0)))
      have HB_ := Lib.hid (HB.out.alloc HB.out.size (.cells #[.slice a_a n c_a] 35 (0, 0)))
      clear R_a B_g HB
      have R_a := R_a_
      have B_g := B_g_
      have HB := HB_
      clear R_a_ B_g_ HB_
      have B_a := Lib.hid (BoxF.new w6 [.slice a_a n c_a] 35)
      have d0 := B_g.out.at 0
      have d1 := B_g.out.at 1
      have d2 := B_g.out.at 2
      have d3 := B_g.out.at 3
      simp only [List.getElem?_cons_zero, List.getElem?_cons_succ] at d0 d1 d2 d3
      go_wp2_with fail
      clear d0 d1 d2 d3 
      refine (HS.out _).mono ?_
      rintro e w7 ⟨a_s, c_s, rfl, ho_, hb_⟩
      have z_w7 := hb_.size
      try simp only [World.size_alloc] at z_w7
      have R_a_ := Lib.hid (R_a.out.below hb_)
      have B_g_ := Lib.hid (B_g.out.below hb_)
      have B_a_ := Lib.hid (B_a.out.below hb_)
      have HB_ := Lib.hid (HB.out.trans (hb_.mono HB.out.size))
      clear R_a B_g B_a HB
      have R_a := R_a_
      have B_g := B_g_
      have B_a := B_a_
      have HB := HB_
      clear R_a_ B_g_ B_a_ HB_
      have R_s := Lib.hid ho_.rd
      clear ho_ hb_
      have R_a_ := Lib.hid (R_a.out.below ((Below.refl _ w7).alloc (Nat.le_refl _) (.cells #[.slice a_s n c_s] 35 (0, 0))))
      have R_s_ := Lib.hid (R_s.out.below ((Below.refl _ w7).alloc (Nat.le_refl _) (.cells #[.slice a_s n c_s] 35 (0, 0))))
      have B_g_ := Lib.hid (B_g.out.alloc (.cells #[.slice a_s n c_s] 35 (0, 0)))
      have B_a_ := Lib.hid (B_a.out.alloc (.cells #[.slice a_s n c_s] 35 (0, 0)))
      have HB_ := Lib.hid (HB.out.alloc HB.out.size (.cells #[.slice a_s n c_s] 35 (0, 0)))
      clear R_a R_s B_g B_a HB
      have R_a := R_a_
      have R_s := R_s_
      have B_g := B_g_
      have B_a := B_a_
      have HB := HB_
      clear R_a_ R_s_ B_g_ B_a_ HB_
      have B_s := Lib.hid (BoxF.new w7 [.slice a_s n c_s] 35)
      have fx_a := B_a.out.one.1
      have fx_s := B_s.out.one.1
      go_wp2_with fail
      clear fx_a fx_s
      refine (rInts_b X n a_a a_s c_a c_s _ R_a.out R_s.out (by omega)).mono ?_
      rintro e w8 ⟨rfl, hb_⟩
      have z_w8 := hb_.size
      try simp only [World.size_alloc] at z_w8
      have R_a_ := Lib.hid (R_a.out.below hb_)
      have R_s_ := Lib.hid (R_s.out.below hb_)
      have B_g_ := Lib.hid (B_g.out.below hb_)
      have B_a_ := Lib.hid (B_a.out.below hb_)
      have B_s_ := Lib.hid (B_s.out.below hb_)
      have HB_ := Lib.hid (HB.out.trans (hb_.mono HB.out.size))
      clear R_a R_s B_g B_a B_s HB
      have R_a := R_a_
      have R_s := R_s_
      have B_g := B_g_
      have B_a := B_a_
      have B_s := B_s_
      have HB := HB_
      clear R_a_ R_s_ B_g_ B_a_ B_s_ HB_
      clear hb_
      obtain ⟨bb, hbb⟩ : ∃ bb, (ok && (l == 0)) = bb := ⟨_, rfl⟩
      have fx_a := B_a.out.one.1
      go_upto_region 17 with fail
      go_cut [132] (fun sx wx => sx = .bool bb ∧ Below w8.heap.size w8 wx)
      case first =>
        have d0 := B_g.out.at 0
        have d1 := B_g.out.at 1
        have d2 := B_g.out.at 2
        have d3 := B_g.out.at 3
        simp only [List.getElem?_cons_zero, List.getElem?_cons_succ] at d0 d1 d2 d3
        cases ok
        · go_wp2_with fail
          go_meet
          case rel => exact ⟨by rw [← hbb]; rfl, Below.refl _ _⟩
        · have hbb2 : (l == 0) = bb := by rw [← hbb]; simp
          go_wp2_with fail
          go_meet
          case rel => exact ⟨by first | rfl | rw [hbb2], Below.refl _ _⟩
      case rest =>
        obtain ⟨rfl, hb_⟩ := hcut
        have z_cc := hb_.size
        clear fx_a
        have R_a_ := Lib.hid (R_a.out.below hb_)
        have R_s_ := Lib.hid (R_s.out.below hb_)
        have B_g_ := Lib.hid (B_g.out.below hb_)
        have B_a_ := Lib.hid (B_a.out.below hb_)
        have B_s_ := Lib.hid (B_s.out.below hb_)
        have HB_ := Lib.hid (HB.out.trans (hb_.mono HB.out.size))
        clear R_a R_s B_g B_a B_s HB
        have R_a := R_a_
        have R_s := R_s_
        have B_g := B_g_
        have B_a := B_a_
        have B_s := B_s_
        have HB := HB_
        clear R_a_ R_s_ B_g_ B_a_ B_s_ HB_
        clear hb_
        have fx_a := B_a.out.one.1
        go_upto_if 132 with fail
        go_cut [] (fun wx => Below w.heap.size w wx)
        case first =>
          cases bb
          · have HB2 := HB.out
            clear hbb HZ
            go_wp2_with fail
            go_meet
            case rel => exact HB2
          · simp only [Bool.and_eq_true, beq_iff_eq] at hbb
            obtain ⟨hok, h0⟩ := hbb
            obtain ⟨hn24, hg, ha⟩ := HZ.out hok h0
            subst hn24
            have HA := Lib.hid (area_named X 0 hg ha)
            clear h0 hok hg ha HZ
            go_wp2_with fail
            refine (HA.out a_a c_a _ R_a.out).mono ?_
            rintro e wz ⟨rfl, hb_⟩
            have HB2 := HB.out.trans (hb_.mono HB.out.size)
            clear hb_
            go_wp2_with fail
            go_meet
            case rel => exact HB2
        case rest =>
          try clear fx_a
          try clear hbb bb
          clear R_a R_s B_a B_s B_g HS HI HZ eok
          try clear hX
          clear HB
          have HB := Lib.hid hcut
          clear hcut
          go_wp2_with fail
          refine (HD3.out _ HB.out).mono ?_
          rintro e w9 ⟨⟨o, ln, rfl⟩, hb_⟩
          have HB_ := Lib.hid (HB.out.trans (hb_.mono HB.out.size))
          clear HB hb_
          have HB := HB_
          clear HB_
          obtain ⟨Z, k, fine, hk, CS, CI, hz⟩ : ∃ (Z : List Int) (k : Nat) (fine : Bool), k ≤ 24 ∧ (∀ W, Calls Tryd.prog 39 #[.int .i64 o, .int .i64 ln] W (AnsRB W Z k fine)) ∧ (∀ W, Below w.heap.size w W → Calls Tryd.prog 38 #[.int .i64 o, .int .i64 ln] W (AnsRB W Z k fine)) ∧ (fine = true → ln = 0 → ∀ W, Calls Tryd.prog 40 #[.int .i64 o] W (AnsRB W Z k true)) := by
            by_cases h : (0 ≤ o ∧ o ≤ 7) ∧ (0 ≤ ln ∧ ln ≤ 4)
            · refine ⟨_, 24, true, by omega, fun W => lordc_spec o ln W h.1 h.2, fun W hb => lordc_impl o ln W (HT.out.below hb) h.1 h.2, fun _ h0 W => ?_⟩
              subst h0
              rw [lined_zero]
              exact ordc_impl o W h.1.1 h.1.2
            · exact ⟨[], 0, false, by omega, fun W => lordc_spec_no o ln W h, fun W hb => lordc_impl_no o ln W h, fun h => by cases h⟩
          have eok : (fine != fine) = false := by simp
          have HS := Lib.hid CS
          have HI := Lib.hid CI
          have HZ := Lib.hid hz
          clear CS CI hz
          go_wp2_with fail
          refine (HI.out _ HB.out).mono ?_
          rintro e w20 ⟨a_c, c_c, rfl, ho_, hb_⟩
          have z_w20 := hb_.size
          try simp only [World.size_alloc] at z_w20
          have HB_ := Lib.hid (HB.out.trans (hb_.mono HB.out.size))
          clear  HB
          have HB := HB_
          clear  HB_
          have R_c := Lib.hid ho_.rd
          clear ho_ hb_
          have R_c_ := Lib.hid (R_c.out.below ((Below.refl _ w20).alloc (Nat.le_refl _) (.cells #[.slice a_c k c_c] 35 (0, 0))))
          have HB_ := Lib.hid (HB.out.alloc HB.out.size (.cells #[.slice a_c k c_c] 35 (0, 0)))
          clear R_c HB
          have R_c := R_c_
          have HB := HB_
          clear R_c_ HB_
          have B_c := Lib.hid (BoxF.new w20 [.slice a_c k c_c] 35)
          go_wp2_with fail
          refine (HS.out _).mono ?_
          rintro e w21 ⟨a_d, c_d, rfl, ho_, hb_⟩
          have z_w21 := hb_.size
          try simp only [World.size_alloc] at z_w21
          have R_c_ := Lib.hid (R_c.out.below hb_)
          have B_c_ := Lib.hid (B_c.out.below hb_)
          have HB_ := Lib.hid (HB.out.trans (hb_.mono HB.out.size))
          clear R_c B_c HB
          have R_c := R_c_
          have B_c := B_c_
          have HB := HB_
          clear R_c_ B_c_ HB_
          have R_d := Lib.hid ho_.rd
          clear ho_ hb_
          have R_c_ := Lib.hid (R_c.out.below ((Below.refl _ w21).alloc (Nat.le_refl _) (.cells #[.slice a_d k c_d] 35 (0, 0))))
          have R_d_ := Lib.hid (R_d.out.below ((Below.refl _ w21).alloc (Nat.le_refl _) (.cells #[.slice a_d k c_d] 35 (0, 0))))
          have B_c_ := Lib.hid (B_c.out.alloc (.cells #[.slice a_d k c_d] 35 (0, 0)))
          have HB_ := Lib.hid (HB.out.alloc HB.out.size (.cells #[.slice a_d k c_d] 35 (0, 0)))
          clear R_c R_d B_c HB
          have R_c := R_c_
          have R_d := R_d_
          have B_c := B_c_
          have HB := HB_
          clear R_c_ R_d_ B_c_ HB_
          have B_d := Lib.hid (BoxF.new w21 [.slice a_d k c_d] 35)
          have fx_c := B_c.out.one.1
          have fx_d := B_d.out.one.1
          go_wp2_with fail
          clear fx_c fx_d
          refine (rInts_b Z k a_c a_d c_c c_d _ R_c.out R_d.out (by omega)).mono ?_
          rintro e w22 ⟨rfl, hb_⟩
          have z_w22 := hb_.size
          try simp only [World.size_alloc] at z_w22
          have R_c_ := Lib.hid (R_c.out.below hb_)
          have R_d_ := Lib.hid (R_d.out.below hb_)
          have B_c_ := Lib.hid (B_c.out.below hb_)
          have B_d_ := Lib.hid (B_d.out.below hb_)
          have HB_ := Lib.hid (HB.out.trans (hb_.mono HB.out.size))
          clear R_c R_d B_c B_d HB
          have R_c := R_c_
          have R_d := R_d_
          have B_c := B_c_
          have B_d := B_d_
          have HB := HB_
          clear R_c_ R_d_ B_c_ B_d_ HB_
          clear hb_
          have fx_c := B_c.out.one.1
          cases fine
          · clear HZ
            go_wp2_with fail
            go_ret
            exact ⟨rfl, HB.out⟩
          · by_cases h0 : ln = 0
            · have HO := Lib.hid (HZ.out rfl h0)
              have el : (ln == 0) = true := by rw [beq_iff_eq]; exact h0
              clear h0 HZ
              go_wp2_with fail
              clear fx_c
              refine (HO.out _).mono ?_
              rintro e w23 ⟨a_o, c_o, rfl, ho_, hb_⟩
              have z_w23 := hb_.size
              try simp only [World.size_alloc] at z_w23
              have R_c_ := Lib.hid (R_c.out.below hb_)
              have R_d_ := Lib.hid (R_d.out.below hb_)
              have B_c_ := Lib.hid (B_c.out.below hb_)
              have B_d_ := Lib.hid (B_d.out.below hb_)
              have HB_ := Lib.hid (HB.out.trans (hb_.mono HB.out.size))
              clear R_c R_d B_c B_d HB
              have R_c := R_c_
              have R_d := R_d_
              have B_c := B_c_
              have B_d := B_d_
              have HB := HB_
              clear R_c_ R_d_ B_c_ B_d_ HB_
              have R_o := Lib.hid ho_.rd
              clear ho_ hb_
              have R_c_ := Lib.hid (R_c.out.below ((Below.refl _ w23).alloc (Nat.le_refl _) (.cells #[.slice a_o k c_o] 35 (0, 0))))
              have R_d_ := Lib.hid (R_d.out.below ((Below.refl _ w23).alloc (Nat.le_refl _) (.cells #[.slice a_o k c_o] 35 (0, 0))))
              have R_o_ := Lib.hid (R_o.out.below ((Below.refl _ w23).alloc (Nat.le_refl _) (.cells #[.slice a_o k c_o] 35 (0, 0))))
              have B_c_ := Lib.hid (B_c.out.alloc (.cells #[.slice a_o k c_o] 35 (0, 0)))
              have B_d_ := Lib.hid (B_d.out.alloc (.cells #[.slice a_o k c_o] 35 (0, 0)))
              have HB_ := Lib.hid (HB.out.alloc HB.out.size (.cells #[.slice a_o k c_o] 35 (0, 0)))
              clear R_c R_d R_o B_c B_d HB
              have R_c := R_c_
              have R_d := R_d_
              have R_o := R_o_
              have B_c := B_c_
              have B_d := B_d_
              have HB := HB_
              clear R_c_ R_d_ R_o_ B_c_ B_d_ HB_
              have B_o := Lib.hid (BoxF.new w23 [.slice a_o k c_o] 35)
              have fx_c := B_c.out.one.1
              have fx_o := B_o.out.one.1
              go_wp2_with fail
              clear fx_c fx_o
              refine (rInts_b Z k a_c a_o c_c c_o _ R_c.out R_o.out (by omega)).mono ?_
              rintro e w24 ⟨rfl, hb_⟩
              have z_w24 := hb_.size
              try simp only [World.size_alloc] at z_w24
              have R_c_ := Lib.hid (R_c.out.below hb_)
              have R_d_ := Lib.hid (R_d.out.below hb_)
              have R_o_ := Lib.hid (R_o.out.below hb_)
              have B_c_ := Lib.hid (B_c.out.below hb_)
              have B_d_ := Lib.hid (B_d.out.below hb_)
              have B_o_ := Lib.hid (B_o.out.below hb_)
              have HB_ := Lib.hid (HB.out.trans (hb_.mono HB.out.size))
              clear R_c R_d R_o B_c B_d B_o HB
              have R_c := R_c_
              have R_d := R_d_
              have R_o := R_o_
              have B_c := B_c_
              have B_d := B_d_
              have B_o := B_o_
              have HB := HB_
              clear R_c_ R_d_ R_o_ B_c_ B_d_ B_o_ HB_
              clear hb_
              go_wp2_with fail
              go_ret
              exact ⟨rfl, HB.out⟩
            · have el : (ln == 0) = false := by rw [beq_eq_false_iff_ne]; exact h0
              clear h0 HZ
              go_wp2_with fail
              go_ret
              exact ⟨rfl, HB.out⟩

/-! ### THE ROW's STEP: WRITTEN OUT: LEAVE IT -/
set_option maxRecDepth 100000 in
theorem lifted (os : Os) (started : os.Started) (H : Type) (enc : TypeId × Value → H) :
    ReturnsInHanded {} Tryd.checked os 4 .any (fun w args => (Rows.fnCurvesSpec.pre enc Tryd.prog Tryd.f4 Rows.fnCurvesRow.domain false w args ∧ laidMetH Tryd.prog laidL w) ∧ sizedMet enc Tryd.prog Tryd.f4 (OpenSpec.ofChange Rows.fnCurvesSpec) false w args)
      (Rows.fnCurvesSpec.post enc Tryd.prog Tryd.f4 false true false false) := by
  refine returnsInHanded_of_change_and (C := Tryd.checked) (X := fun w _ => laidMetH Tryd.prog laidL w) (fun _ _ _ hh h => h.of_heap hh) own started (by kernel_rfl) Tryd.func4
    (ChangeSpec.witness_shaped (enc := enc) (C := Tryd.checked) (os := os) (X := fun w _ => laidMetH Tryd.prog laidL w) false (World.doorLaid Tryd.prog 400 os) #[.slice none 0 0] 8 rfl (World.shaped_of_RefB (by kernel_rfl) (by kernel_rfl)) (by kernel_rfl) (by kernel_rfl) (by kernel_rfl) (door_met os _)) ?_
  intro W base args ds gs before hval0 hW _ hsz0 hL _
  have hval : ∀ (j : Nat) t v, Tryd.f4.params[j]? = some t → args[j]? = some v → Value.okWide Tryd.prog W .any base t v := hval0
  have hW' := hW
  obtain ⟨p, q, hA0, hV, rfl, hfz, hnd⟩ := hW
  have hA : DataW.TrodAll enc Tryd.prog W 0 (fun _ => true) true Tryd.f4.params.toList args.toList ds p := hA0
  rw [Tryd.params4] at hA hval
  obtain ⟨v0, vs0, d0, ds0, p0, q0, hargs, rfl, rfl, h0, r0⟩ := trodAll_cons hA
  obtain ⟨rfl, rfl, rfl⟩ := trodAll_nil r0
  obtain rfl : args = #[v0] := by cases args; simp_all
  obtain ⟨gv, tv, csv, fuelv, dv, pv, hgs, _⟩ := trodVars_one hV
  subst hgs
  obtain ⟨a0, len0, cap0, rfl⟩ := okWide_slice Tryd.underlying22 (hval 0 22 v0 rfl rfl)
  have k0 := h0
  have lt0 : ∀ x ∈ p0, x.block < W.heap.size := by obtain ⟨m, hm⟩ := k0; exact DataW.trod_lt m _ _ _ hm
  obtain ⟨z0, w0⟩ : ∃ zs, IsRow .u8 W a0 len0 cap0 zs := by
    obtain ⟨fuel, hf⟩ := h0
    rcases open_ints Tryd.underlying22 Tryd.underlying5 (by kernel_rfl) hf with ⟨hcs, _⟩ | ⟨x, l, c, zs, hcs, _, hl, hm, hz, _, hcell, hwz⟩
    · simp [Value.cells] at hcs
      obtain ⟨rfl, rfl, rfl⟩ := hcs
      exact ⟨[], .inl ⟨rfl, rfl, rfl, rfl⟩⟩
    · simp [Value.cells] at hcs
      obtain ⟨rfl, rfl, rfl⟩ := hcs
      exact ⟨zs, .inr ⟨_, rfl, hl, hm, by simpa using hz, hcell, hwz⟩⟩
  clear hA0 hval0
  refine (walk a0 len0 cap0 z0 W w0 hL).mono fun e W' ⟨he, bel⟩ => ?_
  subst he
  exact ⟨_, rfl, _, _, _, [], _, q, hW', trodAll_mk1 (shut_bool Tryd.underlying4 _), (trodAll_cons_mk (Below.trod laidOut (by kernel_rfl) (of_decide_eq_true (by kernel_rfl)) k0 bel lt0) trodAll_mk0), Below.trodVars (by kernel_rfl) bel (by kernel_rfl) hV, bel.frame _, fun h => by cases h⟩

theorem over : Rows.fnCurvesRow.holds Tryd.pinned (OpenSpec.ofChange Rows.fnCurvesSpec) :=
  OpenClaim.holds_of_wide 4 Tryd.f4 rfl rfl rfl rfl rfl rfl rfl ⟨rfl, rfl, rfl, rfl, rfl⟩ rfl rfl rfl rfl rfl (by kernel_rfl) Tryd.func4 (by kernel_rfl)
    (of_decide_eq_true (by kernel_rfl)) (by unfold Func.isWrapper; first | (rw [if_pos (by decide +kernel)]; kernel_rfl) | (rw [if_neg (by decide +kernel)]; exact ⟨rfl, rfl⟩))
    (fun os started H enc _ => lifted os started H enc)

/-- The row's statement. -/
theorem proved : Rows.FnCurvesSaid :=
  over

/-- THE TIED CARD: the listed variables are those that the program's own text lays. -/
theorem card : Rows.FnCurvesCardSaid :=
  Claim7.holds_tied_plain_at .later [] [.data] true (true, "17332f113ef768b003665e4ba820d8bca6e43642aa79ba398e66b0f33fe09813") false
    proved (fun _ h => by cases h) (by kernel_rfl) (fun _ h => by cases h) fnCurves_row_tie rfl ⟨rfl, rfl⟩ (by kernel_rfl) rfl
    (fun f fn hf hfn => by
      obtain rfl : f = 4 := Option.some.inj ((show Tryd.prog.funcNamed "loop.example/g00884/laws.FnCurves" = some 4 by kernel_rfl).symm.trans hf) |>.symm
      obtain rfl : fn = Tryd.f4 := (Option.some.inj (Tryd.func4.symm.trans hfn)).symm
      exact ⟨by kernel_rfl, fun j t ht => by
        rw [Tryd.params4] at ht
        have hm : t ∈ [22] := by
          have := Array.mem_of_getElem? ht
          first | simpa using this | (simp at this ⊢; omega) | (simp at this ⊢; rcases this with h | h <;> simp [h])
        have hall : ([22].all fun u => !Tryd.prog.wantsStandIn u) = true := by kernel_rfl
        exact (show Tryd.prog.wantsStandIn t = false by simpa using List.all_eq_true.1 hall t hm)⟩)
    (by kernel_rfl)
#print axioms card
end Go.Proofs.YtkhpgggaaldhhaaDoor.fnCurves
