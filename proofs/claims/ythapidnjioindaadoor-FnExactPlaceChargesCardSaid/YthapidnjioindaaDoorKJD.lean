/- Several small texts in one: C10O, C10W. -/
import Derived.Test.YthapidnjioindaaDoorKJC
import Derived.Deep.RegionHeld3
import Derived.Test.YthapidnjioindaaDoorKIA
namespace Go.Proofs.YthapidnjioindaaDoor
open Go.RowKit

set_option maxHeartbeats 4000000 in
theorem l10Ord_any (o l : Int) (x y : Nat) (w : World) (hx : x < 20) (hy : y < 24) (ho0 : 0 ≤ o) (ho1 : o ≤ 7) (h0 : 0 ≤ l) (h1 : l ≤ 4) :
    Calls Tryd.prog 105 #[.int .i64 o, .int .i64 l, .int .i64 (x : Int), .int .i64 (y : Int)] w fun e w' => e = .returned (.bool (lnOrd o l x y)) ∧ Below w.heap.size w w' := by
  have CX := Lib.hid (fun W => l10Offset_any l y W h0 h1 (by omega))
  have CY := Lib.hid (fun W => l10Offset_any l x W h0 h1 (by omega))
  have CF := Lib.hid (fun W => l10Down_any l x y W h0 h1 hx hy)
  have CR := Lib.hid (fun W => l10Down_rise l x y W h0 h1 hx hy)
  have hf := swF_in l hx hy
  have hr := swR_in l hx hy
  have AF := Lib.hid (fun W => l9Abs_any (swF l x y) W (by omega) (by omega))
  have AR := Lib.hid (fun W => l9Abs_any (swR l x y) W (by omega) (by omega))
  have AG := Lib.hid (fun W => l9Abs_any (2 * (x : Int) - 19) W (by omega) (by omega))
  have hzx := offZ_in l y
  have hzy := offZ_in l x
  clear h0 h1
  have ho : o = 0 ∨ o = 1 ∨ o = 2 ∨ o = 3 ∨ o = 4 ∨ o = 5 ∨ o = 6 ∨ o = 7 := by omega
  rcases ho with rfl | rfl | rfl | rfl | rfl | rfl | rfl | rfl
  · have hr0 : lnOrd 0 l x y = false := by first | rfl | simp [lnOrd, ordS]
    rw [hr0]
    clear hr0 CF CR AF AR AG
    go_enter Tryd.func105, Tryd.ntmps105
    go_wp2_with fail
    refine (CX.out _).mono ?_
    rintro e w1 ⟨rfl, hb1⟩
    have HB1 := Lib.hid hb1
    clear hb1
    go_wp2_with fail
    refine (CY.out _).mono ?_
    rintro e w2 ⟨rfl, hb2⟩
    have HB2 := Lib.hid (HB1.out.trans (hb2.mono HB1.out.size))
    clear hb2 HB1
    go_wp2_with fail
    go_ret
    exact ⟨by first | rfl | simp, HB2.out⟩
  · have hr0 : lnOrd 1 l x y = ordS 1 ((x : Int) - offZ l y) ((y : Int)) (24 * (2 * ((x : Int) - offZ l y) + 1) - 20 * (2 * ((y : Int)) + 1)) (24 * (2 * (19 - ((x : Int) - offZ l y)) + 1) - 20 * (2 * ((y : Int)) + 1)) (2 * ((y : Int)) + 1 - absZ (2 * ((x : Int) - offZ l y) - 19)) := by first | rfl | simp [lnOrd, ordS, swX, swY]
    rw [hr0]
    obtain ⟨z1, hz1⟩ : ∃ z, offZ l y = z := ⟨_, rfl⟩
    obtain ⟨z2, hz2⟩ : ∃ z, offZ l x = z := ⟨_, rfl⟩
    rw [hz1] at CX hzx
    rw [hz2] at CY hzy
    rw [hz1]
    have CO := fun W => l9Ord_int 1 ((x : Int) - z1) ((y : Int)) W (by omega) (by omega) (by omega) (by omega) (by omega) (by omega)
    obtain ⟨r, hr2⟩ : ∃ r, ordS 1 ((x : Int) - z1) ((y : Int)) (24 * (2 * ((x : Int) - z1) + 1) - 20 * (2 * ((y : Int)) + 1)) (24 * (2 * (19 - ((x : Int) - z1)) + 1) - 20 * (2 * ((y : Int)) + 1)) (2 * ((y : Int)) + 1 - absZ (2 * ((x : Int) - z1) - 19)) = r := ⟨_, rfl⟩
    rw [hr2] at CO ⊢
    have CO := Lib.hid CO
    have ew1 : IntKind.i64.wrap ((x : Int) - z1) = (x : Int) - z1 := by simp [IntKind.wrap, IntKind.bits, IntKind.signed]; omega
    clear hr0 hr2 hz1 hz2 CF CR AF AR AG
    go_enter Tryd.func105, Tryd.ntmps105
    go_wp2_with fail
    refine (CX.out _).mono ?_
    rintro e w1 ⟨rfl, hb1⟩
    have HB1 := Lib.hid hb1
    clear hb1
    go_wp2_with fail
    refine (CY.out _).mono ?_
    rintro e w2 ⟨rfl, hb2⟩
    have HB2 := Lib.hid (HB1.out.trans (hb2.mono HB1.out.size))
    clear hb2 HB1
    go_wp2_with fail
    refine (CO.out _).mono ?_
    rintro e w' ⟨rfl, rfl⟩
    go_wp2_with fail
    go_ret
    exact ⟨by first | rfl | simp, HB2.out⟩
  · have hr0 : lnOrd 2 l x y = ordS 2 ((x : Int)) ((y : Int) - offZ l x) (24 * (2 * ((x : Int)) + 1) - 20 * (2 * ((y : Int) - offZ l x) + 1)) (24 * (2 * (19 - ((x : Int))) + 1) - 20 * (2 * ((y : Int) - offZ l x) + 1)) (2 * ((y : Int) - offZ l x) + 1 - absZ (2 * ((x : Int)) - 19)) := by first | rfl | simp [lnOrd, ordS, swX, swY]
    rw [hr0]
    obtain ⟨z1, hz1⟩ : ∃ z, offZ l y = z := ⟨_, rfl⟩
    obtain ⟨z2, hz2⟩ : ∃ z, offZ l x = z := ⟨_, rfl⟩
    rw [hz1] at CX hzx
    rw [hz2] at CY hzy
    rw [hz2]
    have CO := fun W => l9Ord_int 2 ((x : Int)) ((y : Int) - z2) W (by omega) (by omega) (by omega) (by omega) (by omega) (by omega)
    obtain ⟨r, hr2⟩ : ∃ r, ordS 2 ((x : Int)) ((y : Int) - z2) (24 * (2 * ((x : Int)) + 1) - 20 * (2 * ((y : Int) - z2) + 1)) (24 * (2 * (19 - ((x : Int))) + 1) - 20 * (2 * ((y : Int) - z2) + 1)) (2 * ((y : Int) - z2) + 1 - absZ (2 * ((x : Int)) - 19)) = r := ⟨_, rfl⟩
    rw [hr2] at CO ⊢
    have CO := Lib.hid CO
    have ew2 : IntKind.i64.wrap ((y : Int) - z2) = (y : Int) - z2 := by simp [IntKind.wrap, IntKind.bits, IntKind.signed]; omega
    clear hr0 hr2 hz1 hz2 CF CR AF AR AG
    go_enter Tryd.func105, Tryd.ntmps105
    go_wp2_with fail
    refine (CX.out _).mono ?_
    rintro e w1 ⟨rfl, hb1⟩
    have HB1 := Lib.hid hb1
    clear hb1
    go_wp2_with fail
    refine (CY.out _).mono ?_
    rintro e w2 ⟨rfl, hb2⟩
    have HB2 := Lib.hid (HB1.out.trans (hb2.mono HB1.out.size))
    clear hb2 HB1
    go_wp2_with fail
    refine (CO.out _).mono ?_
    rintro e w' ⟨rfl, rfl⟩
    go_wp2_with fail
    go_ret
    exact ⟨by first | rfl | simp, HB2.out⟩
  · have hr0 : lnOrd 3 l x y = decide (absZ (swF l x y) ≤ 160) := by first | rfl | simp [lnOrd, ordS]
    rw [hr0]
    obtain ⟨f, hf2⟩ : ∃ z, swF l x y = z := ⟨_, rfl⟩
    rw [hf2] at CF AF ⊢
    obtain ⟨af, haf⟩ : ∃ z, absZ f = z := ⟨_, rfl⟩
    rw [haf] at AF ⊢
    obtain ⟨b, hb⟩ : ∃ b, decide (af ≤ 160) = b := ⟨_, rfl⟩
    rw [hb]
    obtain ⟨z1, hz1⟩ : ∃ z, offZ l y = z := ⟨_, rfl⟩
    obtain ⟨z2, hz2⟩ : ∃ z, offZ l x = z := ⟨_, rfl⟩
    rw [hz1] at CX hzx
    rw [hz2] at CY hzy
    clear hr0 hf2 haf hz1 hz2 CR AR AG
    cases b
    all_goals
      go_enter Tryd.func105, Tryd.ntmps105
      go_wp2_with fail
      refine (CX.out _).mono ?_
      rintro e w1 ⟨rfl, hb1⟩
      have HB1 := Lib.hid hb1
      clear hb1
      go_wp2_with fail
      refine (CY.out _).mono ?_
      rintro e w2 ⟨rfl, hb2⟩
      have HB2 := Lib.hid (HB1.out.trans (hb2.mono HB1.out.size))
      clear hb2 HB1
      go_wp2_with fail
      refine (CF.out _).mono ?_
      rintro e w3 ⟨rfl, hb_⟩
      have HB3 := Lib.hid (HB2.out.trans (hb_.mono HB2.out.size))
      clear hb_
      go_wp2_with fail
      refine (AF.out _).mono ?_
      rintro e w' ⟨rfl, rfl⟩
      go_wp2_with fail
      go_ret
      exact ⟨by first | rfl | simp, HB3.out⟩
  · have hr0 : lnOrd 4 l x y = decide (11 ≤ 2 * (y : Int) + 1 - absZ (2 * (x : Int) - 19) - 2 * offZ l x ∧ 2 * (y : Int) + 1 - absZ (2 * (x : Int) - 19) - 2 * offZ l x ≤ 22) := by
      have eg : swG l x y = 2 * (y : Int) + 1 - absZ (2 * (x : Int) - 19) - 2 * offZ l x := by
        unfold swG gableZ
        rw [show 2 * (x : Int) + 1 - 20 = 2 * (x : Int) - 19 by omega]
      rw [← eg, Bool.decide_and]
      first | rfl | simp [lnOrd, ordS]
    rw [hr0]
    have hzz : 0 ≤ absZ (2 * (x : Int) - 19) ∧ absZ (2 * (x : Int) - 19) ≤ 1000 := by unfold absZ; split <;> omega
    obtain ⟨g, hg⟩ : ∃ z, absZ (2 * (x : Int) - 19) = z := ⟨_, rfl⟩
    rw [hg] at AG hzz ⊢
    obtain ⟨z1, hz1⟩ : ∃ z, offZ l y = z := ⟨_, rfl⟩
    obtain ⟨z2, hz2⟩ : ∃ z, offZ l x = z := ⟨_, rfl⟩
    rw [hz1] at CX hzx
    rw [hz2] at CY hzy
    rw [hz2]
    obtain ⟨b, hb⟩ : ∃ b, decide (11 ≤ 2 * (y : Int) + 1 - g - 2 * z2 ∧ 2 * (y : Int) + 1 - g - 2 * z2 ≤ 22) = b := ⟨_, rfl⟩
    have CI := Lib.hid (fun W => in_any (2 * (y : Int) + 1 - g - 2 * z2) 11 22 W b hb)
    rw [hb]
    clear hr0 hg hb hz1 hz2 CF CR AF AR
    go_enter Tryd.func105, Tryd.ntmps105
    go_wp2_with fail
    refine (CX.out _).mono ?_
    rintro e w1 ⟨rfl, hb1⟩
    have HB1 := Lib.hid hb1
    clear hb1
    go_wp2_with fail
    refine (CY.out _).mono ?_
    rintro e w2 ⟨rfl, hb2⟩
    have HB2 := Lib.hid (HB1.out.trans (hb2.mono HB1.out.size))
    clear hb2 HB1
    go_wp2_with fail
    refine (AG.out _).mono ?_
    rintro e w' ⟨rfl, rfl⟩
    go_wp2_with fail
    refine (CI.out _).mono ?_
    rintro e w' ⟨rfl, rfl⟩
    go_wp2_with fail
    go_ret
    exact ⟨by first | rfl | simp, HB2.out⟩
  · have hr0 : lnOrd 5 l x y = ordS 5 ((x : Int) - offZ l y) ((y : Int) - offZ l x) (24 * (2 * ((x : Int) - offZ l y) + 1) - 20 * (2 * ((y : Int) - offZ l x) + 1)) (24 * (2 * (19 - ((x : Int) - offZ l y)) + 1) - 20 * (2 * ((y : Int) - offZ l x) + 1)) (2 * ((y : Int) - offZ l x) + 1 - absZ (2 * ((x : Int) - offZ l y) - 19)) := by first | rfl | simp [lnOrd, ordS, swX, swY]
    rw [hr0]
    obtain ⟨z1, hz1⟩ : ∃ z, offZ l y = z := ⟨_, rfl⟩
    obtain ⟨z2, hz2⟩ : ∃ z, offZ l x = z := ⟨_, rfl⟩
    rw [hz1] at CX hzx
    rw [hz2] at CY hzy
    rw [hz1, hz2]
    have CO := fun W => l9Ord_int 5 ((x : Int) - z1) ((y : Int) - z2) W (by omega) (by omega) (by omega) (by omega) (by omega) (by omega)
    obtain ⟨r, hr2⟩ : ∃ r, ordS 5 ((x : Int) - z1) ((y : Int) - z2) (24 * (2 * ((x : Int) - z1) + 1) - 20 * (2 * ((y : Int) - z2) + 1)) (24 * (2 * (19 - ((x : Int) - z1)) + 1) - 20 * (2 * ((y : Int) - z2) + 1)) (2 * ((y : Int) - z2) + 1 - absZ (2 * ((x : Int) - z1) - 19)) = r := ⟨_, rfl⟩
    rw [hr2] at CO ⊢
    have CO := Lib.hid CO
    have ew1 : IntKind.i64.wrap ((x : Int) - z1) = (x : Int) - z1 := by simp [IntKind.wrap, IntKind.bits, IntKind.signed]; omega
    have ew2 : IntKind.i64.wrap ((y : Int) - z2) = (y : Int) - z2 := by simp [IntKind.wrap, IntKind.bits, IntKind.signed]; omega
    clear hr0 hr2 hz1 hz2 CF CR AF AR AG
    go_enter Tryd.func105, Tryd.ntmps105
    go_wp2_with fail
    refine (CX.out _).mono ?_
    rintro e w1 ⟨rfl, hb1⟩
    have HB1 := Lib.hid hb1
    clear hb1
    go_wp2_with fail
    refine (CY.out _).mono ?_
    rintro e w2 ⟨rfl, hb2⟩
    have HB2 := Lib.hid (HB1.out.trans (hb2.mono HB1.out.size))
    clear hb2 HB1
    go_wp2_with fail
    refine (CO.out _).mono ?_
    rintro e w' ⟨rfl, rfl⟩
    go_wp2_with fail
    go_ret
    exact ⟨by first | rfl | simp, HB2.out⟩
  · have hr0 : lnOrd 6 l x y = (decide (absZ (swF l x y) ≤ 120) || decide (absZ (swR l x y) ≤ 120)) := by first | rfl | simp [lnOrd, ordS]
    rw [hr0]
    obtain ⟨f, hf2⟩ : ∃ z, swF l x y = z := ⟨_, rfl⟩
    rw [hf2] at CF AF ⊢
    obtain ⟨r, hr2⟩ : ∃ z, swR l x y = z := ⟨_, rfl⟩
    rw [hr2] at CR AR ⊢
    obtain ⟨af, haf⟩ : ∃ z, absZ f = z := ⟨_, rfl⟩
    rw [haf] at AF ⊢
    obtain ⟨ar, har⟩ : ∃ z, absZ r = z := ⟨_, rfl⟩
    rw [har] at AR ⊢
    obtain ⟨b1, hb1⟩ : ∃ b, decide (af ≤ 120) = b := ⟨_, rfl⟩
    obtain ⟨b2, hb2⟩ : ∃ b, decide (ar ≤ 120) = b := ⟨_, rfl⟩
    rw [hb1, hb2]
    obtain ⟨z1, hz1⟩ : ∃ z, offZ l y = z := ⟨_, rfl⟩
    obtain ⟨z2, hz2⟩ : ∃ z, offZ l x = z := ⟨_, rfl⟩
    rw [hz1] at CX hzx
    rw [hz2] at CY hzy
    clear hr0 hf2 hr2 haf har hz1 hz2 AG
    cases b1
    · cases b2
      all_goals
        go_enter Tryd.func105, Tryd.ntmps105
        go_wp2_with fail
        refine (CX.out _).mono ?_
        rintro e w1 ⟨rfl, hb1⟩
        have HB1 := Lib.hid hb1
        clear hb1
        go_wp2_with fail
        refine (CY.out _).mono ?_
        rintro e w2 ⟨rfl, hb2⟩
        have HB2 := Lib.hid (HB1.out.trans (hb2.mono HB1.out.size))
        clear hb2 HB1
        go_wp2_with fail
        refine (CF.out _).mono ?_
        rintro e w3 ⟨rfl, hb_⟩
        have HB3 := Lib.hid (HB2.out.trans (hb_.mono HB2.out.size))
        clear hb_
        go_wp2_with fail
        refine (AF.out _).mono ?_
        rintro e w' ⟨rfl, rfl⟩
        go_wp2_with fail
        refine (CR.out _).mono ?_
        rintro e w4 ⟨rfl, hb_⟩
        have HB4 := Lib.hid (HB3.out.trans (hb_.mono HB3.out.size))
        clear hb_
        go_wp2_with fail
        refine (AR.out _).mono ?_
        rintro e w' ⟨rfl, rfl⟩
        go_wp2_with fail
        go_ret
        exact ⟨by first | rfl | simp, HB4.out⟩
    · go_enter Tryd.func105, Tryd.ntmps105
      go_wp2_with fail
      refine (CX.out _).mono ?_
      rintro e w1 ⟨rfl, hb1⟩
      have HB1 := Lib.hid hb1
      clear hb1
      go_wp2_with fail
      refine (CY.out _).mono ?_
      rintro e w2 ⟨rfl, hb2⟩
      have HB2 := Lib.hid (HB1.out.trans (hb2.mono HB1.out.size))
      clear hb2 HB1
      go_wp2_with fail
      refine (CF.out _).mono ?_
      rintro e w3 ⟨rfl, hb_⟩
      have HB3 := Lib.hid (HB2.out.trans (hb_.mono HB2.out.size))
      clear hb_
      go_wp2_with fail
      refine (AF.out _).mono ?_
      rintro e w' ⟨rfl, rfl⟩
      go_wp2_with fail
      go_ret
      exact ⟨by first | rfl | simp, HB3.out⟩
  · have hr0 : lnOrd 7 l x y = ordS 7 ((x : Int)) ((y : Int) - offZ l x) (24 * (2 * ((x : Int)) + 1) - 20 * (2 * ((y : Int) - offZ l x) + 1)) (24 * (2 * (19 - ((x : Int))) + 1) - 20 * (2 * ((y : Int) - offZ l x) + 1)) (2 * ((y : Int) - offZ l x) + 1 - absZ (2 * ((x : Int)) - 19)) := by first | rfl | simp [lnOrd, ordS, swX, swY]
    rw [hr0]
    obtain ⟨z1, hz1⟩ : ∃ z, offZ l y = z := ⟨_, rfl⟩
    obtain ⟨z2, hz2⟩ : ∃ z, offZ l x = z := ⟨_, rfl⟩
    rw [hz1] at CX hzx
    rw [hz2] at CY hzy
    rw [hz2]
    have CO := fun W => l9Ord_int 7 ((x : Int)) ((y : Int) - z2) W (by omega) (by omega) (by omega) (by omega) (by omega) (by omega)
    obtain ⟨r, hr2⟩ : ∃ r, ordS 7 ((x : Int)) ((y : Int) - z2) (24 * (2 * ((x : Int)) + 1) - 20 * (2 * ((y : Int) - z2) + 1)) (24 * (2 * (19 - ((x : Int))) + 1) - 20 * (2 * ((y : Int) - z2) + 1)) (2 * ((y : Int) - z2) + 1 - absZ (2 * ((x : Int)) - 19)) = r := ⟨_, rfl⟩
    rw [hr2] at CO ⊢
    have CO := Lib.hid CO
    have ew2 : IntKind.i64.wrap ((y : Int) - z2) = (y : Int) - z2 := by simp [IntKind.wrap, IntKind.bits, IntKind.signed]; omega
    clear hr0 hr2 hz1 hz2 CF CR AF AR AG
    go_enter Tryd.func105, Tryd.ntmps105
    go_wp2_with fail
    refine (CX.out _).mono ?_
    rintro e w1 ⟨rfl, hb1⟩
    have HB1 := Lib.hid hb1
    clear hb1
    go_wp2_with fail
    refine (CY.out _).mono ?_
    rintro e w2 ⟨rfl, hb2⟩
    have HB2 := Lib.hid (HB1.out.trans (hb2.mono HB1.out.size))
    clear hb2 HB1
    go_wp2_with fail
    refine (CO.out _).mono ?_
    rintro e w' ⟨rfl, rfl⟩
    go_wp2_with fail
    go_ret
    exact ⟨by first | rfl | simp, HB2.out⟩
/-- The test of an ordinary with a line, as the program's closure. -/
theorem loTest (o l : Int) (bl bo x y : Nat) (w : World) (hT : OffsLie w) (cl : w.cell? ⟨bl, 0, none⟩ = some (.int .i64 l)) (co : w.cell? ⟨bo, 0, none⟩ = some (.int .i64 o)) (hl : bl < w.heap.size) (hb : bo < w.heap.size) (hx : x < 20) (hy : y < 24) (ho0 : 0 ≤ o) (ho1 : o ≤ 7) (h0 : 0 ≤ l) (h1 : l ≤ 4) :
    Calls Tryd.prog 111 #[.int .i64 (x : Int), .int .i64 (y : Int), .pointer (some ⟨bl, 0, none⟩), .pointer (some ⟨bo, 0, none⟩)] w fun e w' => e = .returned (.bool (lnOrd o l x y)) ∧ Below w.heap.size w w' := by
  have q_ : ∀ W W', (W.cell? ⟨bl, 0, none⟩ = some (.int .i64 l) ∧ W.cell? ⟨bo, 0, none⟩ = some (.int .i64 o) ∧ Below w.heap.size w W) → Below W.heap.size W W' → (W'.cell? ⟨bl, 0, none⟩ = some (.int .i64 l) ∧ W'.cell? ⟨bo, 0, none⟩ = some (.int .i64 o) ∧ Below w.heap.size w W') := fun W W' h hbb => by
    have hs := h.2.2.size
    exact ⟨(hbb.cell (p := ⟨bl, 0, none⟩) (Nat.lt_of_lt_of_le hl hs)).trans h.1, (hbb.cell (p := ⟨bo, 0, none⟩) (Nat.lt_of_lt_of_le hb hs)).trans h.2.1, h.2.2.trans (hbb.mono hs)⟩
  have hf := swF_in l hx hy
  have hr := swR_in l hx hy
  have CS := Lib.hid (fun W (h : W.cell? ⟨bl, 0, none⟩ = some (.int .i64 l) ∧ W.cell? ⟨bo, 0, none⟩ = some (.int .i64 o) ∧ Below w.heap.size w W) => (swung_any l x y W (hT.below h.2.2) hx hy h0 h1).mono (fun e w' hh => And.intro hh.1 (q_ _ _ h hh.2)))
  have CF := Lib.hid (fun W (h : W.cell? ⟨bl, 0, none⟩ = some (.int .i64 l) ∧ W.cell? ⟨bo, 0, none⟩ = some (.int .i64 o) ∧ Below w.heap.size w W) => (ord_any o (swX l x y) (swY l x y) (swF l x y) (swR l x y) (swG l x y) W (by omega) (by omega) (by omega) (by omega) ho0 ho1).mono (fun e w' hh => And.intro hh.1 (q_ _ _ h hh.2)))
  unfold lnOrd
  clear q_ ho0 ho1 hT h0 h1 hf hr
  generalize ordS o (swX l x y) (swY l x y) (swF l x y) (swR l x y) (swG l x y) = b at *
  generalize swX l x y = z0 at *
  generalize swY l x y = z1 at *
  generalize swF l x y = z2 at *
  generalize swR l x y = z3 at *
  generalize swG l x y = z4 at *
  have HS0 : w.drew.cell? ⟨bl, 0, none⟩ = some (.int .i64 l) ∧ w.drew.cell? ⟨bo, 0, none⟩ = some (.int .i64 o) ∧ Below w.heap.size w w.drew := ⟨cl, co, below_drewN' (Below.refl _ w) 1⟩
  go_enter Tryd.func111, Tryd.ntmps111
  go_wp2_with fail
  go_region_held3 (fun w' => w'.cell? ⟨bl, 0, none⟩ = some (.int .i64 l) ∧ w'.cell? ⟨bo, 0, none⟩ = some (.int .i64 o) ∧ Below w.heap.size w w')
    (first | go_keep | exact HS0 | exact ⟨h0, h1, hh⟩ | exact ⟨k0, k1, kk⟩)
    (first
      | (go_at_call 112; (with_reducible refine (CS.out _ ?_).mono ?_); (first | assumption | simp [*]); rintro e whh ⟨rfl, h0, h1, hh⟩)
      | (go_at_call 113; (with_reducible refine (CF.out _ ?_).mono ?_); (first | assumption | simp [*]); rintro e wkk ⟨rfl, k0, k1, kk⟩))
  all_goals
    rename_i hlast
    have K := Lib.hid hlast.2.2
    go_wp2_with fail
    go_ret
    exact ⟨by first | rfl | simp, K.out⟩
end Go.Proofs.YthapidnjioindaaDoor
namespace Go.Proofs.YthapidnjioindaaDoor
open Go.RowKit




set_option maxRecDepth 100000 in
set_option maxHeartbeats 4000000 in
theorem whereLO (p : Nat → Nat → Bool) (bd : Nat) (bp : Nat) (w : World) (HF : ∀ W, Below w.heap.size w W → ∀ x y : Nat, x < 20 → y < 24 → shB x y = true → Calls Tryd.prog 111 #[.int .i64 (x : Int), .int .i64 (y : Int), .pointer (some ⟨bd, 0, none⟩), .pointer (some ⟨bp, 0, none⟩)] W fun e w' => e = .returned (.bool (p x y)) ∧ Below W.heap.size W w') :
    Calls Tryd.prog 97 #[.func (.func 111) #[] #[.pointer (some ⟨bd, 0, none⟩), .pointer (some ⟨bp, 0, none⟩)]] w (AnsR w (regN p)) := by
  obtain ⟨i0, hi, hz0, hz1, hz2⟩ := info_parts infoI
  have CF := Lib.hid HF
  have b0 := BoxF.new w [.slice none 0 0] 26
  have hb0 : Below w.heap.size w (w.alloc (.cells #[.slice none 0 0] 26 (0, 0))) := (Below.refl _ w).alloc (Nat.le_refl _) _
  have HB0 := Lib.hid hb0
  have X0 := Lib.hid b0
  clear HF b0 hb0
  go_enter Tryd.func97, Tryd.ntmps97
  go_wp2_with (at_make; refine wpList_make_full _ rfl _ _ 24 rfl (w.heap.size + 1) 3 i0 (.int .i64 0) 1 Tryd.underlying24 hi hz0 hz1 .i64 .i64 24 24 24 rfl rfl rfl rfl (by rw [hz2]; omega) (by unfold maxLen; omega) (by simp) ?_; intro w1 hown1 hgr1)
  have hfil : OwnI w1 (w.heap.size + 1) (some ⟨w.heap.size + 1, 0, none⟩) 24 24 (stR p 0 0) := by
    unfold OwnI
    rw [stR_start, List.map_replicate, ← toList_madeCells_one]
    rw [Nat.mul_one] at hown1
    simp only [World.size_alloc] at hown1
    exact hown1
  have X1 := Lib.hid (X0.out.kept hgr1 (by simp))
  have HB1 := Lib.hid (HB0.out.grown hgr1 (by simp) (by simp))
  have HO1 := Lib.hid hfil
  clear hown1 hgr1 X0 HB0 hfil
  go_wp2_with fail
  go_loopw [9] (fun i wr => ∃ y : Nat, y ≤ 24 ∧ i = .int .i64 (y : Int) ∧ Hid (OwnI wr (w.heap.size + 1) (some ⟨w.heap.size + 1, 0, none⟩) 24 24 (stR p y 0)) ∧ Hid (BoxF wr w.heap.size [.slice none 0 0] 26) ∧ Hid (Below w.heap.size w wr)) (fun i _ => 24 - (intOf i).toNat)
  case atStart => exact ⟨0, by omega, rfl, HO1, X1, HB1⟩
  case round =>
    obtain ⟨y, hy, rfl, HO, HX, HB⟩ := hrel
    clear HO1 X1 HB1
    by_cases hlt : y < 24
    · have ely : decide ((y : Int) < 24) = true := decide_eq_true (by omega)
      go_wp2_with fail
      go_loopw [12] (fun i wr => ∃ x : Nat, x ≤ 20 ∧ i = .int .i64 (x : Int) ∧ Hid (OwnI wr (w.heap.size + 1) (some ⟨w.heap.size + 1, 0, none⟩) 24 24 (stR p y x)) ∧ Hid (BoxF wr w.heap.size [.slice none 0 0] 26) ∧ Hid (Below w.heap.size w wr)) (fun i _ => 20 - (intOf i).toNat)
      case atStart => exact ⟨0, by omega, rfl, HO, HX, HB⟩
      case round =>
        obtain ⟨x, hx, rfl, HO, HX, HB⟩ := hrel
        by_cases hlx : x < 20
        · have elx : decide ((x : Int) < 20) = true := decide_eq_true (by omega)
          go_wp2_with fail
          refine (inShield_impl _ _ _).mono ?_
          rintro e w2 ⟨rfl, rfl⟩
          rw [shZ_nat hlx hlt]
          have hs := stR_skip p (y := y) (x := x)
          have hset := stR_set p (x := x) hlt
          cases h1 : shB x y
          · have hs := Lib.hid (hs (by rw [h1]; rfl))
            clear hset
            go_wp2_with fail
            go_roundw
            case rel => exact ⟨x + 1, by omega, by go_num, by rw [hs.out]; exact HO, HX, HB⟩
            case measure => simp [intOf]; omega
          · go_wp2_with fail
            refine (CF.out _ HB.out x y hlx hlt h1).mono ?_
            rintro e w2 ⟨rfl, hb2⟩
            have HO2 := Lib.hid (HO.out.below hb2)
            have HX2 := Lib.hid (HX.out.below hb2)
            have HB2 := Lib.hid (HB.out.trans (hb2.mono HB.out.size))
            clear hb2 HO HX HB
            cases h2 : p x y
            · have hs := Lib.hid (hs (by rw [h2]; simp))
              clear hset
              go_wp2_with fail
              go_roundw
              case rel => exact ⟨x + 1, by omega, by go_num, by rw [hs.out]; exact HO2, HX2, HB2⟩
              case measure => simp [intOf]; omega
            · obtain ⟨N, hN⟩ : ∃ N, rowN (fun i => shB i y && p i y) x = N := ⟨_, rfl⟩
              have hat := stR_at p x hlt
              have hlN := rowN_ltk (fun i => shB i y && p i y) hx
              have hor := rowN_or (fun i => shB i y && p i y) x
              rw [hN] at hset hat hlN hor
              have hp2 : 2 ^ x < 1048576 := by
                have := Nat.pow_lt_pow_right (a := 2) (by decide) hlx
                omega
              have hor := i64_or_nat N (2 ^ x) (by omega) (by omega) |>.trans (congrArg _ hor)
              have hc1 := (HO2.out.cellAt y hlt)
              rw [List.getElem?_map, hat] at hc1
              simp only [Option.map_some] at hc1
              have hf1 := HO2.out.frozenAt y
              clear hs hat hN
              have HF1 := Lib.hid hf1
              have HOR := Lib.hid hor
              have HSET := Lib.hid (hset (by rw [h1, h2]; rfl))
              clear hlN hor hset hf1
              go_wp2_with fail
              have hf1 := HF1.out
              have hor := HOR.out
              go_region
              rw [wrap_pow hp2, hor]
              have HO3 := HO2.out.stored y (.int .i64 (((N + 2 ^ x : Nat)) : Int))
              have HX3 := Lib.hid (HX2.out.kept HO3.2 (by simp))
              have HB3 := Lib.hid (HB2.out.grown HO3.2 HB2.out.size (fun q hq => by cases hq; omega))
              have HO4 := Lib.hid (show OwnI (w2.setCell ⟨w.heap.size + 1, y, none⟩ (.int .i64 (((N + 2 ^ x : Nat)) : Int))) (w.heap.size + 1) (some ⟨w.heap.size + 1, 0, none⟩) 24 24 (stR p y (x + 1)) by
                rw [← HSET.out]
                unfold OwnI
                rw [List.map_set]
                exact HO3.1)
              clear HO3 HX2 HB2 HO2 hor hf1 HF1 HOR hc1 HSET
              have HO5 := Lib.hid (HO4.out.drewN 1)
              have HX5 := Lib.hid (HX3.out.drew 1)
              have HB5 := Lib.hid (below_drewN' HB3.out 1)
              clear HO4 HX3 HB3
              go_wp2_with fail
              go_roundw
              case rel => exact ⟨x + 1, by omega, by go_num, HO5, HX5, HB5⟩
              case measure => simp [intOf]; omega
        · have elx : decide ((x : Int) < 20) = false := decide_eq_false (by omega)
          obtain rfl : x = 20 := by omega
          rw [stR_next] at HO
          go_wp2_with fail
          go_roundw
          case rel => exact ⟨y + 1, by omega, by go_num, HO, HX, HB⟩
          case measure => simp [intOf]; omega
    · have ely : decide ((y : Int) < 24) = false := decide_eq_false (by omega)
      obtain rfl : y = 24 := by omega
      rw [stR_all] at HO
      obtain ⟨c0, f0⟩ := HX.out.one
      have hf0 := f0 0
      have X9 := HX.out.set 0 (.slice (some ⟨w.heap.size + 1, 0, none⟩) 24 24)
      obtain ⟨z0, _⟩ := X9.one
      have HG := grownBy_set wr w.heap.size 0 (.slice (some ⟨w.heap.size + 1, 0, none⟩) 24 24)
      have HO9 := Lib.hid ((HO.out.low (B' := w.heap.size) (by omega)).kept HG (by right; simp [Value.ownBlock]))
      have HB9 := Lib.hid (HB.out.grown HG HB.out.size (fun q hq => by cases hq; exact Nat.le_refl _))
      clear X9 HG HO HX HB f0
      go_wp2_with fail
      exact bodyPost_ret (v := .agg #[.slice (some ⟨w.heap.size + 1, 0, none⟩) 24 24]) (by simp [results, Tryd.results97, go_sem, z0]) rfl ⟨_, rfl, HO9.out, HB9.out⟩
end Go.Proofs.YthapidnjioindaaDoor
