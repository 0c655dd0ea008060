/- Contracts of chapter 10: the model's ordinaries with a line, the tests of the program's regions. -/
import Derived.Test.YtkhpgggaaldhhaaDoorC10Q
import Derived.Deep.RegionHeld3
namespace Go.Proofs.YtkhpgggaaldhhaaDoor
open Go.RowKit

set_option maxHeartbeats 4000000 in
theorem l10Ord_any (o l : Int) (x y : Nat) (w : World) (hx : x < 20) (hy : y < 24) (ho0 : 0 ≤ o) (ho1 : o ≤ 7) (h0 : 0 ≤ l) (h1 : l ≤ 4) :
    Calls Tryd.prog 75 #[.int .i64 o, .int .i64 l, .int .i64 (x : Int), .int .i64 (y : Int)] w fun e w' => e = .returned (.bool (lnOrd o l x y)) ∧ Below w.heap.size w w' := by
  have CX := Lib.hid (fun W => l10Offset_any l y W h0 h1 (by omega))
  have CY := Lib.hid (fun W => l10Offset_any l x W h0 h1 (by omega))
  have CF := Lib.hid (fun W => l10Down_any l x y W h0 h1 hx hy)
  have CR := Lib.hid (fun W => l10Down_rise l x y W h0 h1 hx hy)
  have hf := swF_in l hx hy
  have hr := swR_in l hx hy
  have AF := Lib.hid (fun W => l9Abs_any (swF l x y) W (by omega) (by omega))
  have AR := Lib.hid (fun W => l9Abs_any (swR l x y) W (by omega) (by omega))
  have AG := Lib.hid (fun W => l9Abs_any (2 * (x : Int) - 19) W (by omega) (by omega))
  have hzx := offZ_in l y
  have hzy := offZ_in l x
  clear h0 h1
  have ho : o = 0 ∨ o = 1 ∨ o = 2 ∨ o = 3 ∨ o = 4 ∨ o = 5 ∨ o = 6 ∨ o = 7 := by omega
  rcases ho with rfl | rfl | rfl | rfl | rfl | rfl | rfl | rfl
  · have hr0 : lnOrd 0 l x y = false := by first | rfl | simp [lnOrd, ordS]
    rw [hr0]
    clear hr0 CF CR AF AR AG
    go_enter Tryd.func75, Tryd.ntmps75
    go_wp2_with fail
    refine (CX.out _).mono ?_
    rintro e w1 ⟨rfl, hb1⟩
    have HB1 := Lib.hid hb1
    clear hb1
    go_wp2_with fail
    refine (CY.out _).mono ?_
    rintro e w2 ⟨rfl, hb2⟩
    have HB2 := Lib.hid (HB1.out.trans (hb2.mono HB1.out.size))
    clear hb2 HB1
    go_wp2_with fail
    go_ret
    exact ⟨by first | rfl | simp, HB2.out⟩
  · have hr0 : lnOrd 1 l x y = ordS 1 ((x : Int) - offZ l y) ((y : Int)) (24 * (2 * ((x : Int) - offZ l y) + 1) - 20 * (2 * ((y : Int)) + 1)) (24 * (2 * (19 - ((x : Int) - offZ l y)) + 1) - 20 * (2 * ((y : Int)) + 1)) (2 * ((y : Int)) + 1 - absZ (2 * ((x : Int) - offZ l y) - 19)) := by first | rfl | simp [lnOrd, ordS, swX, swY]
    rw [hr0]
    obtain ⟨z1, hz1⟩ : ∃ z, offZ l y = z := ⟨_, rfl⟩
    obtain ⟨z2, hz2⟩ : ∃ z, offZ l x = z := ⟨_, rfl⟩
    rw [hz1] at CX hzx
    rw [hz2] at CY hzy
    rw [hz1]
    have CO := fun W => l9Ord_int 1 ((x : Int) - z1) ((y : Int)) W (by omega) (by omega) (by omega) (by omega) (by omega) (by omega)
    obtain ⟨r, hr2⟩ : ∃ r, ordS 1 ((x : Int) - z1) ((y : Int)) (24 * (2 * ((x : Int) - z1) + 1) - 20 * (2 * ((y : Int)) + 1)) (24 * (2 * (19 - ((x : Int) - z1)) + 1) - 20 * (2 * ((y : Int)) + 1)) (2 * ((y : Int)) + 1 - absZ (2 * ((x : Int) - z1) - 19)) = r := ⟨_, rfl⟩
    rw [hr2] at CO ⊢
    have CO := Lib.hid CO
    have ew1 : IntKind.i64.wrap ((x : Int) - z1) = (x : Int) - z1 := by simp [IntKind.wrap, IntKind.bits, IntKind.signed]; omega
    clear hr0 hr2 hz1 hz2 CF CR AF AR AG
    go_enter Tryd.func75, Tryd.ntmps75
    go_wp2_with fail
    refine (CX.out _).mono ?_
    rintro e w1 ⟨rfl, hb1⟩
    have HB1 := Lib.hid hb1
    clear hb1
    go_wp2_with fail
    refine (CY.out _).mono ?_
    rintro e w2 ⟨rfl, hb2⟩
    have HB2 := Lib.hid (HB1.out.trans (hb2.mono HB1.out.size))
    clear hb2 HB1
    go_wp2_with fail
    refine (CO.out _).mono ?_
    rintro e w' ⟨rfl, rfl⟩
    go_wp2_with fail
    go_ret
    exact ⟨by first | rfl | simp, HB2.out⟩
  · have hr0 : lnOrd 2 l x y = ordS 2 ((x : Int)) ((y : Int) - offZ l x) (24 * (2 * ((x : Int)) + 1) - 20 * (2 * ((y : Int) - offZ l x) + 1)) (24 * (2 * (19 - ((x : Int))) + 1) - 20 * (2 * ((y : Int) - offZ l x) + 1)) (2 * ((y : Int) - offZ l x) + 1 - absZ (2 * ((x : Int)) - 19)) := by first | rfl | simp [lnOrd, ordS, swX, swY]
    rw [hr0]
    obtain ⟨z1, hz1⟩ : ∃ z, offZ l y = z := ⟨_, rfl⟩
    obtain ⟨z2, hz2⟩ : ∃ z, offZ l x = z := ⟨_, rfl⟩
    rw [hz1] at CX hzx
    rw [hz2] at CY hzy
    rw [hz2]
    have CO := fun W => l9Ord_int 2 ((x : Int)) ((y : Int) - z2) W (by omega) (by omega) (by omega) (by omega) (by omega) (by omega)
    obtain ⟨r, hr2⟩ : ∃ r, ordS 2 ((x : Int)) ((y : Int) - z2) (24 * (2 * ((x : Int)) + 1) - 20 * (2 * ((y : Int) - z2) + 1)) (24 * (2 * (19 - ((x : Int))) + 1) - 20 * (2 * ((y : Int) - z2) + 1)) (2 * ((y : Int) - z2) + 1 - absZ (2 * ((x : Int)) - 19)) = r := ⟨_, rfl⟩
    rw [hr2] at CO ⊢
    have CO := Lib.hid CO
    have ew2 : IntKind.i64.wrap ((y : Int) - z2) = (y : Int) - z2 := by simp [IntKind.wrap, IntKind.bits, IntKind.signed]; omega
    clear hr0 hr2 hz1 hz2 CF CR AF AR AG
    go_enter Tryd.func75, Tryd.ntmps75
    go_wp2_with fail
    refine (CX.out _).mono ?_
    rintro e w1 ⟨rfl, hb1⟩
    have HB1 := Lib.hid hb1
    clear hb1
    go_wp2_with fail
    refine (CY.out _).mono ?_
    rintro e w2 ⟨rfl, hb2⟩
    have HB2 := Lib.hid (HB1.out.trans (hb2.mono HB1.out.size))
    clear hb2 HB1
    go_wp2_with fail
    refine (CO.out _).mono ?_
    rintro e w' ⟨rfl, rfl⟩
    go_wp2_with fail
    go_ret
    exact ⟨by first | rfl | simp, HB2.out⟩
  · have hr0 : lnOrd 3 l x y = decide (absZ (swF l x y) ≤ 160) := by first | rfl | simp [lnOrd, ordS]
    rw [hr0]
    obtain ⟨f, hf2⟩ : ∃ z, swF l x y = z := ⟨_, rfl⟩
    rw [hf2] at CF AF ⊢
    obtain ⟨af, haf⟩ : ∃ z, absZ f = z := ⟨_, rfl⟩
    rw [haf] at AF ⊢
    obtain ⟨b, hb⟩ : ∃ b, decide (af ≤ 160) = b := ⟨_, rfl⟩
    rw [hb]
    obtain ⟨z1, hz1⟩ : ∃ z, offZ l y = z := ⟨_, rfl⟩
    obtain ⟨z2, hz2⟩ : ∃ z, offZ l x = z := ⟨_, rfl⟩
    rw [hz1] at CX hzx
    rw [hz2] at CY hzy
    clear hr0 hf2 haf hz1 hz2 CR AR AG
    cases b
    all_goals
      go_enter Tryd.func75, Tryd.ntmps75
      go_wp2_with fail
      refine (CX.out _).mono ?_
      rintro e w1 ⟨rfl, hb1⟩
      have HB1 := Lib.hid hb1
      clear hb1
      go_wp2_with fail
      refine (CY.out _).mono ?_
      rintro e w2 ⟨rfl, hb2⟩
      have HB2 := Lib.hid (HB1.out.trans (hb2.mono HB1.out.size))
      clear hb2 HB1
      go_wp2_with fail
      refine (CF.out _).mono ?_
      rintro e w3 ⟨rfl, hb_⟩
      have HB3 := Lib.hid (HB2.out.trans (hb_.mono HB2.out.size))
      clear hb_
      go_wp2_with fail
      refine (AF.out _).mono ?_
      rintro e w' ⟨rfl, rfl⟩
      go_wp2_with fail
      go_ret
      exact ⟨by first | rfl | simp, HB3.out⟩
  · have hr0 : lnOrd 4 l x y = decide (11 ≤ 2 * (y : Int) + 1 - absZ (2 * (x : Int) - 19) - 2 * offZ l x ∧ 2 * (y : Int) + 1 - absZ (2 * (x : Int) - 19) - 2 * offZ l x ≤ 22) := by
      have eg : swG l x y = 2 * (y : Int) + 1 - absZ (2 * (x : Int) - 19) - 2 * offZ l x := by
        unfold swG gableZ
        rw [show 2 * (x : Int) + 1 - 20 = 2 * (x : Int) - 19 by omega]
      rw [← eg, Bool.decide_and]
      first | rfl | simp [lnOrd, ordS]
    rw [hr0]
    have hzz : 0 ≤ absZ (2 * (x : Int) - 19) ∧ absZ (2 * (x : Int) - 19) ≤ 1000 := by unfold absZ; split <;> omega
    obtain ⟨g, hg⟩ : ∃ z, absZ (2 * (x : Int) - 19) = z := ⟨_, rfl⟩
    rw [hg] at AG hzz ⊢
    obtain ⟨z1, hz1⟩ : ∃ z, offZ l y = z := ⟨_, rfl⟩
    obtain ⟨z2, hz2⟩ : ∃ z, offZ l x = z := ⟨_, rfl⟩
    rw [hz1] at CX hzx
    rw [hz2] at CY hzy
    rw [hz2]
    obtain ⟨b, hb⟩ : ∃ b, decide (11 ≤ 2 * (y : Int) + 1 - g - 2 * z2 ∧ 2 * (y : Int) + 1 - g - 2 * z2 ≤ 22) = b := ⟨_, rfl⟩
    have CI := Lib.hid (fun W => in_any (2 * (y : Int) + 1 - g - 2 * z2) 11 22 W b hb)
    rw [hb]
    clear hr0 hg hb hz1 hz2 CF CR AF AR
    go_enter Tryd.func75, Tryd.ntmps75
    go_wp2_with fail
    refine (CX.out _).mono ?_
    rintro e w1 ⟨rfl, hb1⟩
    have HB1 := Lib.hid hb1
    clear hb1
    go_wp2_with fail
    refine (CY.out _).mono ?_
    rintro e w2 ⟨rfl, hb2⟩
    have HB2 := Lib.hid (HB1.out.trans (hb2.mono HB1.out.size))
    clear hb2 HB1
    go_wp2_with fail
    refine (AG.out _).mono ?_
    rintro e w' ⟨rfl, rfl⟩
    go_wp2_with fail
    refine (CI.out _).mono ?_
    rintro e w' ⟨rfl, rfl⟩
    go_wp2_with fail
    go_ret
    exact ⟨by first | rfl | simp, HB2.out⟩
  · have hr0 : lnOrd 5 l x y = ordS 5 ((x : Int) - offZ l y) ((y : Int) - offZ l x) (24 * (2 * ((x : Int) - offZ l y) + 1) - 20 * (2 * ((y : Int) - offZ l x) + 1)) (24 * (2 * (19 - ((x : Int) - offZ l y)) + 1) - 20 * (2 * ((y : Int) - offZ l x) + 1)) (2 * ((y : Int) - offZ l x) + 1 - absZ (2 * ((x : Int) - offZ l y) - 19)) := by first | rfl | simp [lnOrd, ordS, swX, swY]
    rw [hr0]
    obtain ⟨z1, hz1⟩ : ∃ z, offZ l y = z := ⟨_, rfl⟩
    obtain ⟨z2, hz2⟩ : ∃ z, offZ l x = z := ⟨_, rfl⟩
    rw [hz1] at CX hzx
    rw [hz2] at CY hzy
    rw [hz1, hz2]
    have CO := fun W => l9Ord_int 5 ((x : Int) - z1) ((y : Int) - z2) W (by omega) (by omega) (by omega) (by omega) (by omega) (by omega)
    obtain ⟨r, hr2⟩ : ∃ r, ordS 5 ((x : Int) - z1) ((y : Int) - z2) (24 * (2 * ((x : Int) - z1) + 1) - 20 * (2 * ((y : Int) - z2) + 1)) (24 * (2 * (19 - ((x : Int) - z1)) + 1) - 20 * (2 * ((y : Int) - z2) + 1)) (2 * ((y : Int) - z2) + 1 - absZ (2 * ((x : Int) - z1) - 19)) = r := ⟨_, rfl⟩
    rw [hr2] at CO ⊢
    have CO := Lib.hid CO
    have ew1 : IntKind.i64.wrap ((x : Int) - z1) = (x : Int) - z1 := by simp [IntKind.wrap, IntKind.bits, IntKind.signed]; omega
    have ew2 : IntKind.i64.wrap ((y : Int) - z2) = (y : Int) - z2 := by simp [IntKind.wrap, IntKind.bits, IntKind.signed]; omega
    clear hr0 hr2 hz1 hz2 CF CR AF AR AG
    go_enter Tryd.func75, Tryd.ntmps75
    go_wp2_with fail
    refine (CX.out _).mono ?_
    rintro e w1 ⟨rfl, hb1⟩
    have HB1 := Lib.hid hb1
    clear hb1
    go_wp2_with fail
    refine (CY.out _).mono ?_
    rintro e w2 ⟨rfl, hb2⟩
    have HB2 := Lib.hid (HB1.out.trans (hb2.mono HB1.out.size))
    clear hb2 HB1
    go_wp2_with fail
    refine (CO.out _).mono ?_
    rintro e w' ⟨rfl, rfl⟩
    go_wp2_with fail
    go_ret
    exact ⟨by first | rfl | simp, HB2.out⟩
  · have hr0 : lnOrd 6 l x y = (decide (absZ (swF l x y) ≤ 120) || decide (absZ (swR l x y) ≤ 120)) := by first | rfl | simp [lnOrd, ordS]
    rw [hr0]
    obtain ⟨f, hf2⟩ : ∃ z, swF l x y = z := ⟨_, rfl⟩
    rw [hf2] at CF AF ⊢
    obtain ⟨r, hr2⟩ : ∃ z, swR l x y = z := ⟨_, rfl⟩
    rw [hr2] at CR AR ⊢
    obtain ⟨af, haf⟩ : ∃ z, absZ f = z := ⟨_, rfl⟩
    rw [haf] at AF ⊢
    obtain ⟨ar, har⟩ : ∃ z, absZ r = z := ⟨_, rfl⟩
    rw [har] at AR ⊢
    obtain ⟨b1, hb1⟩ : ∃ b, decide (af ≤ 120) = b := ⟨_, rfl⟩
    obtain ⟨b2, hb2⟩ : ∃ b, decide (ar ≤ 120) = b := ⟨_, rfl⟩
    rw [hb1, hb2]
    obtain ⟨z1, hz1⟩ : ∃ z, offZ l y = z := ⟨_, rfl⟩
    obtain ⟨z2, hz2⟩ : ∃ z, offZ l x = z := ⟨_, rfl⟩
    rw [hz1] at CX hzx
    rw [hz2] at CY hzy
    clear hr0 hf2 hr2 haf har hz1 hz2 AG
    cases b1
    · cases b2
      all_goals
        go_enter Tryd.func75, Tryd.ntmps75
        go_wp2_with fail
        refine (CX.out _).mono ?_
        rintro e w1 ⟨rfl, hb1⟩
        have HB1 := Lib.hid hb1
        clear hb1
        go_wp2_with fail
        refine (CY.out _).mono ?_
        rintro e w2 ⟨rfl, hb2⟩
        have HB2 := Lib.hid (HB1.out.trans (hb2.mono HB1.out.size))
        clear hb2 HB1
        go_wp2_with fail
        refine (CF.out _).mono ?_
        rintro e w3 ⟨rfl, hb_⟩
        have HB3 := Lib.hid (HB2.out.trans (hb_.mono HB2.out.size))
        clear hb_
        go_wp2_with fail
        refine (AF.out _).mono ?_
        rintro e w' ⟨rfl, rfl⟩
        go_wp2_with fail
        refine (CR.out _).mono ?_
        rintro e w4 ⟨rfl, hb_⟩
        have HB4 := Lib.hid (HB3.out.trans (hb_.mono HB3.out.size))
        clear hb_
        go_wp2_with fail
        refine (AR.out _).mono ?_
        rintro e w' ⟨rfl, rfl⟩
        go_wp2_with fail
        go_ret
        exact ⟨by first | rfl | simp, HB4.out⟩
    · go_enter Tryd.func75, Tryd.ntmps75
      go_wp2_with fail
      refine (CX.out _).mono ?_
      rintro e w1 ⟨rfl, hb1⟩
      have HB1 := Lib.hid hb1
      clear hb1
      go_wp2_with fail
      refine (CY.out _).mono ?_
      rintro e w2 ⟨rfl, hb2⟩
      have HB2 := Lib.hid (HB1.out.trans (hb2.mono HB1.out.size))
      clear hb2 HB1
      go_wp2_with fail
      refine (CF.out _).mono ?_
      rintro e w3 ⟨rfl, hb_⟩
      have HB3 := Lib.hid (HB2.out.trans (hb_.mono HB2.out.size))
      clear hb_
      go_wp2_with fail
      refine (AF.out _).mono ?_
      rintro e w' ⟨rfl, rfl⟩
      go_wp2_with fail
      go_ret
      exact ⟨by first | rfl | simp, HB3.out⟩
  · have hr0 : lnOrd 7 l x y = ordS 7 ((x : Int)) ((y : Int) - offZ l x) (24 * (2 * ((x : Int)) + 1) - 20 * (2 * ((y : Int) - offZ l x) + 1)) (24 * (2 * (19 - ((x : Int))) + 1) - 20 * (2 * ((y : Int) - offZ l x) + 1)) (2 * ((y : Int) - offZ l x) + 1 - absZ (2 * ((x : Int)) - 19)) := by first | rfl | simp [lnOrd, ordS, swX, swY]
    rw [hr0]
    obtain ⟨z1, hz1⟩ : ∃ z, offZ l y = z := ⟨_, rfl⟩
    obtain ⟨z2, hz2⟩ : ∃ z, offZ l x = z := ⟨_, rfl⟩
    rw [hz1] at CX hzx
    rw [hz2] at CY hzy
    rw [hz2]
    have CO := fun W => l9Ord_int 7 ((x : Int)) ((y : Int) - z2) W (by omega) (by omega) (by omega) (by omega) (by omega) (by omega)
    obtain ⟨r, hr2⟩ : ∃ r, ordS 7 ((x : Int)) ((y : Int) - z2) (24 * (2 * ((x : Int)) + 1) - 20 * (2 * ((y : Int) - z2) + 1)) (24 * (2 * (19 - ((x : Int))) + 1) - 20 * (2 * ((y : Int) - z2) + 1)) (2 * ((y : Int) - z2) + 1 - absZ (2 * ((x : Int)) - 19)) = r := ⟨_, rfl⟩
    rw [hr2] at CO ⊢
    have CO := Lib.hid CO
    have ew2 : IntKind.i64.wrap ((y : Int) - z2) = (y : Int) - z2 := by simp [IntKind.wrap, IntKind.bits, IntKind.signed]; omega
    clear hr0 hr2 hz1 hz2 CF CR AF AR AG
    go_enter Tryd.func75, Tryd.ntmps75
    go_wp2_with fail
    refine (CX.out _).mono ?_
    rintro e w1 ⟨rfl, hb1⟩
    have HB1 := Lib.hid hb1
    clear hb1
    go_wp2_with fail
    refine (CY.out _).mono ?_
    rintro e w2 ⟨rfl, hb2⟩
    have HB2 := Lib.hid (HB1.out.trans (hb2.mono HB1.out.size))
    clear hb2 HB1
    go_wp2_with fail
    refine (CO.out _).mono ?_
    rintro e w' ⟨rfl, rfl⟩
    go_wp2_with fail
    go_ret
    exact ⟨by first | rfl | simp, HB2.out⟩
/-- The test of a part with a line, as the program's closure. -/
theorem frTest (d l f s p : Int) (bf bp x y : Nat) (w : World) (hT : OffsLie w) (hF : FOk d l f s) (XF : BoxF w bf [.int .i64 d, .int .i64 l, .int .i64 f, .int .i64 s] 30) (XP : BoxF w bp [.int .i64 p] 3) (hx : x < 20) (hy : y < 24) (hs : shB x y = true) :
    Calls Tryd.prog 58 #[.int .i64 (x : Int), .int .i64 (y : Int), .pointer (some ⟨bf, 0, none⟩), .pointer (some ⟨bp, 0, none⟩)] w fun e w' => e = .returned (.bool ((if lnFirst d l x y then (0 : Int) else 1) == p)) ∧ Below w.heap.size w w' := by
  have CF := fpart_impl d l f s x y w hT
  have eo : okPart d l f s x y = true := by unfold okPart; rw [decide_eq_true hF, shZ_nat hx hy, hs]; rfl
  rw [eo, show partA d l (x : Int) (y : Int) = (if lnFirst d l x y then 0 else 1) from rfl] at CF
  simp only [if_true] at CF
  obtain ⟨v, hv⟩ : ∃ v : Int, (if lnFirst d l x y = true then (0 : Int) else 1) = v := ⟨_, rfl⟩
  rw [hv] at CF ⊢
  have CF := Lib.hid CF
  have HP := Lib.hid XP
  have d0 := XF.at 0
  have d1 := XF.at 1
  have d2 := XF.at 2
  have d3 := XF.at 3
  simp only [List.getElem?_cons_zero, List.getElem?_cons_succ] at d0 d1 d2 d3
  obtain ⟨r, hr⟩ : ∃ r, (v == p) = r := ⟨_, rfl⟩
  rw [hr]
  clear hT hF XF XP hs eo hv
  go_enter Tryd.func58, Tryd.ntmps58
  go_wp2_with fail
  refine CF.out.mono ?_
  rintro e w1 ⟨rfl, hb1⟩
  have c0 := (HP.out.below hb1).one.1
  have HB := Lib.hid hb1
  clear hb1 d0 d1 d2 d3
  go_wp2_with fail
  go_ret
  exact ⟨rfl, HB.out⟩
/-- The test of swung cells, as the program's closure. -/
theorem swTest (d l f s : Int) (bf bs x y : Nat) (w : World) (hT : OffsLie w) (hF : FOk d l f s) (hF2 : FOk d 0 f s) (XF : BoxF w bf [.int .i64 d, .int .i64 l, .int .i64 f, .int .i64 s] 30) (XS : BoxF w bs [.int .i64 d, .int .i64 0, .int .i64 f, .int .i64 s] 30) (hx : x < 20) (hy : y < 24) (hs : shB x y = true) :
    Calls Tryd.prog 71 #[.int .i64 (x : Int), .int .i64 (y : Int), .pointer (some ⟨bf, 0, none⟩), .pointer (some ⟨bs, 0, none⟩)] w fun e w' => e = .returned (.bool (lnFirst d l x y != lnFirst d 0 x y)) ∧ Below w.heap.size w w' := by
  have CF := fpart_impl d l f s x y w hT
  have CG := fun W (h : Below w.heap.size w W) => fpart_impl d 0 f s x y W (hT.below h)
  have eo : okPart d l f s x y = true := by unfold okPart; rw [decide_eq_true hF, shZ_nat hx hy, hs]; rfl
  have eo2 : okPart d 0 f s x y = true := by unfold okPart; rw [decide_eq_true hF2, shZ_nat hx hy, hs]; rfl
  rw [eo, show partA d l (x : Int) (y : Int) = (if lnFirst d l x y then 0 else 1) from rfl] at CF
  rw [eo2, show partA d 0 (x : Int) (y : Int) = (if lnFirst d 0 x y then 0 else 1) from rfl] at CG
  simp only [if_true] at CF CG
  have hr : ((if lnFirst d l x y = true then (0 : Int) else 1) != (if lnFirst d 0 x y = true then (0 : Int) else 1)) = (lnFirst d l x y != lnFirst d 0 x y) := by cases lnFirst d l x y <;> cases lnFirst d 0 x y <;> rfl
  obtain ⟨v, hv⟩ : ∃ v : Int, (if lnFirst d l x y = true then (0 : Int) else 1) = v := ⟨_, rfl⟩
  obtain ⟨u, hu⟩ : ∃ v : Int, (if lnFirst d 0 x y = true then (0 : Int) else 1) = v := ⟨_, rfl⟩
  rw [hv] at CF hr
  rw [hu] at CG hr
  obtain ⟨r, hr2⟩ : ∃ r, (lnFirst d l x y != lnFirst d 0 x y) = r := ⟨_, rfl⟩
  rw [hr2] at hr ⊢
  have CF := Lib.hid CF
  have CG := Lib.hid CG
  have HS := Lib.hid XS
  have d0 := XF.at 0
  have d1 := XF.at 1
  have d2 := XF.at 2
  have d3 := XF.at 3
  simp only [List.getElem?_cons_zero, List.getElem?_cons_succ] at d0 d1 d2 d3
  clear hT hF hF2 XF XS hs eo eo2 hv hu hr2
  go_enter Tryd.func71, Tryd.ntmps71
  go_wp2_with fail
  refine CF.out.mono ?_
  rintro e w1 ⟨rfl, hb1⟩
  have HB := Lib.hid hb1
  have X1 := HS.out.below hb1
  clear hb1 d0 d1 d2 d3
  have d0 := X1.at 0
  have d1 := X1.at 1
  have d2 := X1.at 2
  have d3 := X1.at 3
  simp only [List.getElem?_cons_zero, List.getElem?_cons_succ] at d0 d1 d2 d3
  clear X1
  go_wp2_with fail
  refine (CG.out _ HB.out).mono ?_
  rintro e w2 ⟨rfl, hb2⟩
  have HB2 := Lib.hid (HB.out.trans (hb2.mono HB.out.size))
  clear hb2 d0 d1 d2 d3
  go_wp2_with fail
  go_ret
  exact ⟨rfl, HB2.out⟩
/-- The test of an ordinary with a line, as the program's closure. -/
theorem loTest (o l : Int) (bl bo x y : Nat) (w : World) (hT : OffsLie w) (cl : w.cell? ⟨bl, 0, none⟩ = some (.int .i64 l)) (co : w.cell? ⟨bo, 0, none⟩ = some (.int .i64 o)) (hl : bl < w.heap.size) (hb : bo < w.heap.size) (hx : x < 20) (hy : y < 24) (ho0 : 0 ≤ o) (ho1 : o ≤ 7) (h0 : 0 ≤ l) (h1 : l ≤ 4) :
    Calls Tryd.prog 73 #[.int .i64 (x : Int), .int .i64 (y : Int), .pointer (some ⟨bl, 0, none⟩), .pointer (some ⟨bo, 0, none⟩)] w fun e w' => e = .returned (.bool (lnOrd o l x y)) ∧ Below w.heap.size w w' := by
  have q_ : ∀ W W', (W.cell? ⟨bl, 0, none⟩ = some (.int .i64 l) ∧ W.cell? ⟨bo, 0, none⟩ = some (.int .i64 o) ∧ Below w.heap.size w W) → Below W.heap.size W W' → (W'.cell? ⟨bl, 0, none⟩ = some (.int .i64 l) ∧ W'.cell? ⟨bo, 0, none⟩ = some (.int .i64 o) ∧ Below w.heap.size w W') := fun W W' h hbb => by
    have hs := h.2.2.size
    exact ⟨(hbb.cell (p := ⟨bl, 0, none⟩) (Nat.lt_of_lt_of_le hl hs)).trans h.1, (hbb.cell (p := ⟨bo, 0, none⟩) (Nat.lt_of_lt_of_le hb hs)).trans h.2.1, h.2.2.trans (hbb.mono hs)⟩
  have hf := swF_in l hx hy
  have hr := swR_in l hx hy
  have CS := Lib.hid (fun W (h : W.cell? ⟨bl, 0, none⟩ = some (.int .i64 l) ∧ W.cell? ⟨bo, 0, none⟩ = some (.int .i64 o) ∧ Below w.heap.size w W) => (swung_any l x y W (hT.below h.2.2) hx hy h0 h1).mono (fun e w' hh => And.intro hh.1 (q_ _ _ h hh.2)))
  have CF := Lib.hid (fun W (h : W.cell? ⟨bl, 0, none⟩ = some (.int .i64 l) ∧ W.cell? ⟨bo, 0, none⟩ = some (.int .i64 o) ∧ Below w.heap.size w W) => (ord_any o (swX l x y) (swY l x y) (swF l x y) (swR l x y) (swG l x y) W (by omega) (by omega) (by omega) (by omega) ho0 ho1).mono (fun e w' hh => And.intro hh.1 (q_ _ _ h hh.2)))
  unfold lnOrd
  clear q_ ho0 ho1 hT h0 h1 hf hr
  generalize ordS o (swX l x y) (swY l x y) (swF l x y) (swR l x y) (swG l x y) = b at *
  generalize swX l x y = z0 at *
  generalize swY l x y = z1 at *
  generalize swF l x y = z2 at *
  generalize swR l x y = z3 at *
  generalize swG l x y = z4 at *
  have HS0 : w.drew.cell? ⟨bl, 0, none⟩ = some (.int .i64 l) ∧ w.drew.cell? ⟨bo, 0, none⟩ = some (.int .i64 o) ∧ Below w.heap.size w w.drew := ⟨cl, co, below_drewN' (Below.refl _ w) 1⟩
  go_enter Tryd.func73, Tryd.ntmps73
  go_wp2_with fail
  go_region_held3 (fun w' => w'.cell? ⟨bl, 0, none⟩ = some (.int .i64 l) ∧ w'.cell? ⟨bo, 0, none⟩ = some (.int .i64 o) ∧ Below w.heap.size w w')
    (first | go_keep | exact HS0 | exact ⟨h0, h1, hh⟩ | exact ⟨k0, k1, kk⟩)
    (first
      | (go_at_call 68; (with_reducible refine (CS.out _ ?_).mono ?_); (first | assumption | simp [*]); rintro e whh ⟨rfl, h0, h1, hh⟩)
      | (go_at_call 74; (with_reducible refine (CF.out _ ?_).mono ?_); (first | assumption | simp [*]); rintro e wkk ⟨rfl, k0, k1, kk⟩))
  all_goals
    rename_i hlast
    have K := Lib.hid hlast.2.2
    go_wp2_with fail
    go_ret
    exact ⟨by first | rfl | simp, K.out⟩
end Go.Proofs.YtkhpgggaaldhhaaDoor
