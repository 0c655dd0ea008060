/- Several small texts in one: Arms2. -/
import Derived.Test.YthapidnjioindaaDoorK1
namespace Go.Proofs.YthapidnjioindaaDoor
open Go.RowKit

/-- Arms are valid. -/
def aOkB (d l f s o n x c k a t c' k' a' t' : Int) : Bool := decide (FOk d l f s) && (decide (0 ≤ o ∧ o ≤ 7) && ((gNoB c' k' a' t' || gOkB c' k' a' t') && (if o = 0 then (n == 0) && ((x == 0) && gNoB c k a t) else decide (0 ≤ n ∧ n ≤ 4) && (decide (1 ≤ x ∧ x ≤ 9) && (gNoB c k a t || gOkB c k a t)))))
theorem l3Line_any (x : Int) (w : World) (p : Bool) (hp : decide (0 ≤ x ∧ x ≤ 4) = p) :
    Calls Tryd.prog 103 #[.int .i64 x] w fun e w' => e = .returned (.bool p) ∧ w = w' := by
  cases p
  · have := of_decide_eq_false hp
    exact l3Line_no x w (by omega)
  · have := of_decide_eq_true hp
    exact l3Line_yes x w this.1 this.2
set_option maxHeartbeats 8000000 in
theorem l5Good_any (d l f s o n x c k a t c' k' a' t' : Int) (w : World) (r : Bool) (hr : aOkB d l f s o n x c k a t c' k' a' t' = r) :
    Calls Tryd.prog 69 #[.agg #[.int .i64 d, .int .i64 l, .int .i64 f, .int .i64 s, .int .i64 o, .int .i64 n, .int .i64 x, .int .i64 c, .int .i64 k, .int .i64 a, .int .i64 t, .int .i64 c', .int .i64 k', .int .i64 a', .int .i64 t']] w fun e w' => e = .returned (.bool r) ∧ Below w.heap.size w w' := by
  obtain ⟨p1, h1⟩ : ∃ p, decide (FOk d l f s) = p := ⟨_, rfl⟩
  obtain ⟨p2, h2⟩ : ∃ p, decide (0 ≤ o ∧ o ≤ 7) = p := ⟨_, rfl⟩
  obtain ⟨p3, h3⟩ : ∃ p, gNoB c' k' a' t' = p := ⟨_, rfl⟩
  obtain ⟨p4, h4⟩ : ∃ p, gOkB c' k' a' t' = p := ⟨_, rfl⟩
  obtain ⟨p5, h5⟩ : ∃ p, (o == 0) = p := ⟨_, rfl⟩
  obtain ⟨p6, h6⟩ : ∃ p, (n == 0) = p := ⟨_, rfl⟩
  obtain ⟨p7, h7⟩ : ∃ p, (x == 0) = p := ⟨_, rfl⟩
  obtain ⟨p8, h8⟩ : ∃ p, gNoB c k a t = p := ⟨_, rfl⟩
  obtain ⟨p9, h9⟩ : ∃ p, gOkB c k a t = p := ⟨_, rfl⟩
  obtain ⟨q1, h10⟩ : ∃ p, decide (0 ≤ n ∧ n ≤ 4) = p := ⟨_, rfl⟩
  obtain ⟨q2, h11⟩ : ∃ p, decide (1 ≤ x ∧ x ≤ 9) = p := ⟨_, rfl⟩
  have hR : r = (p1 && (p2 && ((p3 || p4) && (if p5 = true then p6 && (p7 && p8) else q1 && (q2 && (p8 || p9)))))) := by
    rw [← hr, ← h1, ← h2, ← h3, ← h4, ← h5, ← h6, ← h7, ← h8, ← h9, ← h10, ← h11]
    unfold aOkB
    by_cases h : o = 0 <;> simp [h]
  have C1 := Lib.hid (fun W => l3Good_any d l f s W p1 h1)
  have C2 := Lib.hid (fun W => l1In_any o 0 7 W p2 h2)
  have C3 := Lib.hid (fun W => l4None_any c' k' a' t' W p3 h3)
  have C4 := Lib.hid (fun W => l4Group_any c' k' a' t' W p4 h4)
  have C5 := Lib.hid (fun W => l4None_any c k a t W p8 h8)
  have C6 := Lib.hid (fun W => l4Group_any c k a t W p9 h9)
  have C7 := Lib.hid (fun W => l3Line_any n W q1 h10)
  have C8 := Lib.hid (fun W => l2Good_any x W q2 h11)
  have BX := Lib.hid (BoxF.new w [.int .i64 d, .int .i64 l, .int .i64 f, .int .i64 s, .int .i64 o, .int .i64 n, .int .i64 x, .int .i64 c, .int .i64 k, .int .i64 a, .int .i64 t, .int .i64 c', .int .i64 k', .int .i64 a', .int .i64 t'] 60)
  have BB : Hid (Below w.heap.size w (w.alloc (.cells #[.int .i64 d, .int .i64 l, .int .i64 f, .int .i64 s, .int .i64 o, .int .i64 n, .int .i64 x, .int .i64 c, .int .i64 k, .int .i64 a, .int .i64 t, .int .i64 c', .int .i64 k', .int .i64 a', .int .i64 t'] 60 (0, 0)))) := Lib.hid ((Below.refl _ w).alloc (Nat.le_refl _) _)
  clear hr h1 h2 h3 h4 h8 h9 h10 h11
  cases p1
  · subst hR
    have bx := BX.out
    obtain ⟨x0, x1, x2, x3, x4, x5, x6, x7, x8, x9, x10, x11, x12, x13, x14, xf⟩ := bx.fifteen
    go_enter Tryd.func69, Tryd.ntmps69
    go_wp2_with fail
    refine (C1.out _).mono ?_
    rintro e w1 ⟨rfl, g1⟩
    clear x0 x1 x2 x3 x4 x5 x6 x7 x8 x9 x10 x11 x12 x13 x14 xf
    have BX1 := Lib.hid (bx.below g1)
    have BB1 := Lib.hid (BB.out.trans (g1.mono BB.out.size))
    clear g1 bx
    have bx := BX1.out
    obtain ⟨x0, x1, x2, x3, x4, x5, x6, x7, x8, x9, x10, x11, x12, x13, x14, xf⟩ := bx.fifteen
    go_wp2_with fail
    all_goals
      go_ret
      exact ⟨rfl, BB1.out⟩
  · cases p2
    · subst hR
      have bx := BX.out
      obtain ⟨x0, x1, x2, x3, x4, x5, x6, x7, x8, x9, x10, x11, x12, x13, x14, xf⟩ := bx.fifteen
      go_enter Tryd.func69, Tryd.ntmps69
      go_wp2_with fail
      refine (C1.out _).mono ?_
      rintro e w1 ⟨rfl, g1⟩
      clear x0 x1 x2 x3 x4 x5 x6 x7 x8 x9 x10 x11 x12 x13 x14 xf
      have BX1 := Lib.hid (bx.below g1)
      have BB1 := Lib.hid (BB.out.trans (g1.mono BB.out.size))
      clear g1 bx
      have bx := BX1.out
      obtain ⟨x0, x1, x2, x3, x4, x5, x6, x7, x8, x9, x10, x11, x12, x13, x14, xf⟩ := bx.fifteen
      go_wp2_with fail
      refine (C2.out _).mono ?_
      rintro e w2 ⟨rfl, rfl⟩
      go_wp2_with fail
      all_goals
        go_ret
        exact ⟨rfl, BB1.out⟩
    · cases p3
      · cases p4
        · subst hR
          have bx := BX.out
          obtain ⟨x0, x1, x2, x3, x4, x5, x6, x7, x8, x9, x10, x11, x12, x13, x14, xf⟩ := bx.fifteen
          go_enter Tryd.func69, Tryd.ntmps69
          go_wp2_with fail
          refine (C1.out _).mono ?_
          rintro e w1 ⟨rfl, g1⟩
          clear x0 x1 x2 x3 x4 x5 x6 x7 x8 x9 x10 x11 x12 x13 x14 xf
          have BX1 := Lib.hid (bx.below g1)
          have BB1 := Lib.hid (BB.out.trans (g1.mono BB.out.size))
          clear g1 bx
          have bx := BX1.out
          obtain ⟨x0, x1, x2, x3, x4, x5, x6, x7, x8, x9, x10, x11, x12, x13, x14, xf⟩ := bx.fifteen
          go_wp2_with fail
          refine (C2.out _).mono ?_
          rintro e w2 ⟨rfl, rfl⟩
          go_wp2_with fail
          refine (C3.out _).mono ?_
          rintro e w3 ⟨rfl, g1⟩
          clear x0 x1 x2 x3 x4 x5 x6 x7 x8 x9 x10 x11 x12 x13 x14 xf
          have BX3 := Lib.hid (bx.below g1)
          have BB3 := Lib.hid (BB1.out.trans (g1.mono BB1.out.size))
          clear g1 bx
          have bx := BX3.out
          obtain ⟨x0, x1, x2, x3, x4, x5, x6, x7, x8, x9, x10, x11, x12, x13, x14, xf⟩ := bx.fifteen
          go_wp2_with fail
          refine (C4.out _).mono ?_
          rintro e w4 ⟨rfl, g1⟩
          clear x0 x1 x2 x3 x4 x5 x6 x7 x8 x9 x10 x11 x12 x13 x14 xf
          have BX4 := Lib.hid (bx.below g1)
          have BB4 := Lib.hid (BB3.out.trans (g1.mono BB3.out.size))
          clear g1 bx
          have bx := BX4.out
          obtain ⟨x0, x1, x2, x3, x4, x5, x6, x7, x8, x9, x10, x11, x12, x13, x14, xf⟩ := bx.fifteen
          go_wp2_with fail
          all_goals
            go_ret
            exact ⟨rfl, BB4.out⟩
        · cases p5
          · cases q1
            · subst hR
              have bx := BX.out
              obtain ⟨x0, x1, x2, x3, x4, x5, x6, x7, x8, x9, x10, x11, x12, x13, x14, xf⟩ := bx.fifteen
              go_enter Tryd.func69, Tryd.ntmps69
              go_wp2_with fail
              refine (C1.out _).mono ?_
              rintro e w1 ⟨rfl, g1⟩
              clear x0 x1 x2 x3 x4 x5 x6 x7 x8 x9 x10 x11 x12 x13 x14 xf
              have BX1 := Lib.hid (bx.below g1)
              have BB1 := Lib.hid (BB.out.trans (g1.mono BB.out.size))
              clear g1 bx
              have bx := BX1.out
              obtain ⟨x0, x1, x2, x3, x4, x5, x6, x7, x8, x9, x10, x11, x12, x13, x14, xf⟩ := bx.fifteen
              go_wp2_with fail
              refine (C2.out _).mono ?_
              rintro e w2 ⟨rfl, rfl⟩
              go_wp2_with fail
              refine (C3.out _).mono ?_
              rintro e w3 ⟨rfl, g1⟩
              clear x0 x1 x2 x3 x4 x5 x6 x7 x8 x9 x10 x11 x12 x13 x14 xf
              have BX3 := Lib.hid (bx.below g1)
              have BB3 := Lib.hid (BB1.out.trans (g1.mono BB1.out.size))
              clear g1 bx
              have bx := BX3.out
              obtain ⟨x0, x1, x2, x3, x4, x5, x6, x7, x8, x9, x10, x11, x12, x13, x14, xf⟩ := bx.fifteen
              go_wp2_with fail
              refine (C4.out _).mono ?_
              rintro e w4 ⟨rfl, g1⟩
              clear x0 x1 x2 x3 x4 x5 x6 x7 x8 x9 x10 x11 x12 x13 x14 xf
              have BX4 := Lib.hid (bx.below g1)
              have BB4 := Lib.hid (BB3.out.trans (g1.mono BB3.out.size))
              clear g1 bx
              have bx := BX4.out
              obtain ⟨x0, x1, x2, x3, x4, x5, x6, x7, x8, x9, x10, x11, x12, x13, x14, xf⟩ := bx.fifteen
              go_wp2_with fail
              refine (C7.out _).mono ?_
              rintro e w5 ⟨rfl, rfl⟩
              go_wp2_with fail
              all_goals
                go_ret
                exact ⟨rfl, BB4.out⟩
            · cases q2
              · subst hR
                have bx := BX.out
                obtain ⟨x0, x1, x2, x3, x4, x5, x6, x7, x8, x9, x10, x11, x12, x13, x14, xf⟩ := bx.fifteen
                go_enter Tryd.func69, Tryd.ntmps69
                go_wp2_with fail
                refine (C1.out _).mono ?_
                rintro e w1 ⟨rfl, g1⟩
                clear x0 x1 x2 x3 x4 x5 x6 x7 x8 x9 x10 x11 x12 x13 x14 xf
                have BX1 := Lib.hid (bx.below g1)
                have BB1 := Lib.hid (BB.out.trans (g1.mono BB.out.size))
                clear g1 bx
                have bx := BX1.out
                obtain ⟨x0, x1, x2, x3, x4, x5, x6, x7, x8, x9, x10, x11, x12, x13, x14, xf⟩ := bx.fifteen
                go_wp2_with fail
                refine (C2.out _).mono ?_
                rintro e w2 ⟨rfl, rfl⟩
                go_wp2_with fail
                refine (C3.out _).mono ?_
                rintro e w3 ⟨rfl, g1⟩
                clear x0 x1 x2 x3 x4 x5 x6 x7 x8 x9 x10 x11 x12 x13 x14 xf
                have BX3 := Lib.hid (bx.below g1)
                have BB3 := Lib.hid (BB1.out.trans (g1.mono BB1.out.size))
                clear g1 bx
                have bx := BX3.out
                obtain ⟨x0, x1, x2, x3, x4, x5, x6, x7, x8, x9, x10, x11, x12, x13, x14, xf⟩ := bx.fifteen
                go_wp2_with fail
                refine (C4.out _).mono ?_
                rintro e w4 ⟨rfl, g1⟩
                clear x0 x1 x2 x3 x4 x5 x6 x7 x8 x9 x10 x11 x12 x13 x14 xf
                have BX4 := Lib.hid (bx.below g1)
                have BB4 := Lib.hid (BB3.out.trans (g1.mono BB3.out.size))
                clear g1 bx
                have bx := BX4.out
                obtain ⟨x0, x1, x2, x3, x4, x5, x6, x7, x8, x9, x10, x11, x12, x13, x14, xf⟩ := bx.fifteen
                go_wp2_with fail
                refine (C7.out _).mono ?_
                rintro e w5 ⟨rfl, rfl⟩
                go_wp2_with fail
                refine (C8.out _).mono ?_
                rintro e w6 ⟨rfl, rfl⟩
                go_wp2_with fail
                all_goals
                  go_ret
                  exact ⟨rfl, BB4.out⟩
              · cases p8
                · subst hR
                  have bx := BX.out
                  obtain ⟨x0, x1, x2, x3, x4, x5, x6, x7, x8, x9, x10, x11, x12, x13, x14, xf⟩ := bx.fifteen
                  go_enter Tryd.func69, Tryd.ntmps69
                  go_wp2_with fail
                  refine (C1.out _).mono ?_
                  rintro e w1 ⟨rfl, g1⟩
                  clear x0 x1 x2 x3 x4 x5 x6 x7 x8 x9 x10 x11 x12 x13 x14 xf
                  have BX1 := Lib.hid (bx.below g1)
                  have BB1 := Lib.hid (BB.out.trans (g1.mono BB.out.size))
                  clear g1 bx
                  have bx := BX1.out
                  obtain ⟨x0, x1, x2, x3, x4, x5, x6, x7, x8, x9, x10, x11, x12, x13, x14, xf⟩ := bx.fifteen
                  go_wp2_with fail
                  refine (C2.out _).mono ?_
                  rintro e w2 ⟨rfl, rfl⟩
                  go_wp2_with fail
                  refine (C3.out _).mono ?_
                  rintro e w3 ⟨rfl, g1⟩
                  clear x0 x1 x2 x3 x4 x5 x6 x7 x8 x9 x10 x11 x12 x13 x14 xf
                  have BX3 := Lib.hid (bx.below g1)
                  have BB3 := Lib.hid (BB1.out.trans (g1.mono BB1.out.size))
                  clear g1 bx
                  have bx := BX3.out
                  obtain ⟨x0, x1, x2, x3, x4, x5, x6, x7, x8, x9, x10, x11, x12, x13, x14, xf⟩ := bx.fifteen
                  go_wp2_with fail
                  refine (C4.out _).mono ?_
                  rintro e w4 ⟨rfl, g1⟩
                  clear x0 x1 x2 x3 x4 x5 x6 x7 x8 x9 x10 x11 x12 x13 x14 xf
                  have BX4 := Lib.hid (bx.below g1)
                  have BB4 := Lib.hid (BB3.out.trans (g1.mono BB3.out.size))
                  clear g1 bx
                  have bx := BX4.out
                  obtain ⟨x0, x1, x2, x3, x4, x5, x6, x7, x8, x9, x10, x11, x12, x13, x14, xf⟩ := bx.fifteen
                  go_wp2_with fail
                  refine (C7.out _).mono ?_
                  rintro e w5 ⟨rfl, rfl⟩
                  go_wp2_with fail
                  refine (C8.out _).mono ?_
                  rintro e w6 ⟨rfl, rfl⟩
                  go_wp2_with fail
                  refine (C5.out _).mono ?_
                  rintro e w7 ⟨rfl, g1⟩
                  clear x0 x1 x2 x3 x4 x5 x6 x7 x8 x9 x10 x11 x12 x13 x14 xf
                  have BX7 := Lib.hid (bx.below g1)
                  have BB7 := Lib.hid (BB4.out.trans (g1.mono BB4.out.size))
                  clear g1 bx
                  have bx := BX7.out
                  obtain ⟨x0, x1, x2, x3, x4, x5, x6, x7, x8, x9, x10, x11, x12, x13, x14, xf⟩ := bx.fifteen
                  go_wp2_with fail
                  refine (C6.out _).mono ?_
                  rintro e w8 ⟨rfl, g1⟩
                  clear x0 x1 x2 x3 x4 x5 x6 x7 x8 x9 x10 x11 x12 x13 x14 xf
                  have BX8 := Lib.hid (bx.below g1)
                  have BB8 := Lib.hid (BB7.out.trans (g1.mono BB7.out.size))
                  clear g1 bx
                  have bx := BX8.out
                  obtain ⟨x0, x1, x2, x3, x4, x5, x6, x7, x8, x9, x10, x11, x12, x13, x14, xf⟩ := bx.fifteen
                  go_wp2_with fail
                  all_goals
                    go_ret
                    exact ⟨rfl, BB8.out⟩
                · subst hR
                  have bx := BX.out
                  obtain ⟨x0, x1, x2, x3, x4, x5, x6, x7, x8, x9, x10, x11, x12, x13, x14, xf⟩ := bx.fifteen
                  go_enter Tryd.func69, Tryd.ntmps69
                  go_wp2_with fail
                  refine (C1.out _).mono ?_
                  rintro e w1 ⟨rfl, g1⟩
                  clear x0 x1 x2 x3 x4 x5 x6 x7 x8 x9 x10 x11 x12 x13 x14 xf
                  have BX1 := Lib.hid (bx.below g1)
                  have BB1 := Lib.hid (BB.out.trans (g1.mono BB.out.size))
                  clear g1 bx
                  have bx := BX1.out
                  obtain ⟨x0, x1, x2, x3, x4, x5, x6, x7, x8, x9, x10, x11, x12, x13, x14, xf⟩ := bx.fifteen
                  go_wp2_with fail
                  refine (C2.out _).mono ?_
                  rintro e w2 ⟨rfl, rfl⟩
                  go_wp2_with fail
                  refine (C3.out _).mono ?_
                  rintro e w3 ⟨rfl, g1⟩
                  clear x0 x1 x2 x3 x4 x5 x6 x7 x8 x9 x10 x11 x12 x13 x14 xf
                  have BX3 := Lib.hid (bx.below g1)
                  have BB3 := Lib.hid (BB1.out.trans (g1.mono BB1.out.size))
                  clear g1 bx
                  have bx := BX3.out
                  obtain ⟨x0, x1, x2, x3, x4, x5, x6, x7, x8, x9, x10, x11, x12, x13, x14, xf⟩ := bx.fifteen
                  go_wp2_with fail
                  refine (C4.out _).mono ?_
                  rintro e w4 ⟨rfl, g1⟩
                  clear x0 x1 x2 x3 x4 x5 x6 x7 x8 x9 x10 x11 x12 x13 x14 xf
                  have BX4 := Lib.hid (bx.below g1)
                  have BB4 := Lib.hid (BB3.out.trans (g1.mono BB3.out.size))
                  clear g1 bx
                  have bx := BX4.out
                  obtain ⟨x0, x1, x2, x3, x4, x5, x6, x7, x8, x9, x10, x11, x12, x13, x14, xf⟩ := bx.fifteen
                  go_wp2_with fail
                  refine (C7.out _).mono ?_
                  rintro e w5 ⟨rfl, rfl⟩
                  go_wp2_with fail
                  refine (C8.out _).mono ?_
                  rintro e w6 ⟨rfl, rfl⟩
                  go_wp2_with fail
                  refine (C5.out _).mono ?_
                  rintro e w7 ⟨rfl, g1⟩
                  clear x0 x1 x2 x3 x4 x5 x6 x7 x8 x9 x10 x11 x12 x13 x14 xf
                  have BX7 := Lib.hid (bx.below g1)
                  have BB7 := Lib.hid (BB4.out.trans (g1.mono BB4.out.size))
                  clear g1 bx
                  have bx := BX7.out
                  obtain ⟨x0, x1, x2, x3, x4, x5, x6, x7, x8, x9, x10, x11, x12, x13, x14, xf⟩ := bx.fifteen
                  go_wp2_with fail
                  all_goals
                    go_ret
                    exact ⟨rfl, BB7.out⟩
          · cases p6
            · subst hR
              have bx := BX.out
              obtain ⟨x0, x1, x2, x3, x4, x5, x6, x7, x8, x9, x10, x11, x12, x13, x14, xf⟩ := bx.fifteen
              go_enter Tryd.func69, Tryd.ntmps69
              go_wp2_with fail
              refine (C1.out _).mono ?_
              rintro e w1 ⟨rfl, g1⟩
              clear x0 x1 x2 x3 x4 x5 x6 x7 x8 x9 x10 x11 x12 x13 x14 xf
              have BX1 := Lib.hid (bx.below g1)
              have BB1 := Lib.hid (BB.out.trans (g1.mono BB.out.size))
              clear g1 bx
              have bx := BX1.out
              obtain ⟨x0, x1, x2, x3, x4, x5, x6, x7, x8, x9, x10, x11, x12, x13, x14, xf⟩ := bx.fifteen
              go_wp2_with fail
              refine (C2.out _).mono ?_
              rintro e w2 ⟨rfl, rfl⟩
              go_wp2_with fail
              refine (C3.out _).mono ?_
              rintro e w3 ⟨rfl, g1⟩
              clear x0 x1 x2 x3 x4 x5 x6 x7 x8 x9 x10 x11 x12 x13 x14 xf
              have BX3 := Lib.hid (bx.below g1)
              have BB3 := Lib.hid (BB1.out.trans (g1.mono BB1.out.size))
              clear g1 bx
              have bx := BX3.out
              obtain ⟨x0, x1, x2, x3, x4, x5, x6, x7, x8, x9, x10, x11, x12, x13, x14, xf⟩ := bx.fifteen
              go_wp2_with fail
              refine (C4.out _).mono ?_
              rintro e w4 ⟨rfl, g1⟩
              clear x0 x1 x2 x3 x4 x5 x6 x7 x8 x9 x10 x11 x12 x13 x14 xf
              have BX4 := Lib.hid (bx.below g1)
              have BB4 := Lib.hid (BB3.out.trans (g1.mono BB3.out.size))
              clear g1 bx
              have bx := BX4.out
              obtain ⟨x0, x1, x2, x3, x4, x5, x6, x7, x8, x9, x10, x11, x12, x13, x14, xf⟩ := bx.fifteen
              go_wp2_with fail
              all_goals
                go_ret
                exact ⟨rfl, BB4.out⟩
            · cases p7
              · subst hR
                have bx := BX.out
                obtain ⟨x0, x1, x2, x3, x4, x5, x6, x7, x8, x9, x10, x11, x12, x13, x14, xf⟩ := bx.fifteen
                go_enter Tryd.func69, Tryd.ntmps69
                go_wp2_with fail
                refine (C1.out _).mono ?_
                rintro e w1 ⟨rfl, g1⟩
                clear x0 x1 x2 x3 x4 x5 x6 x7 x8 x9 x10 x11 x12 x13 x14 xf
                have BX1 := Lib.hid (bx.below g1)
                have BB1 := Lib.hid (BB.out.trans (g1.mono BB.out.size))
                clear g1 bx
                have bx := BX1.out
                obtain ⟨x0, x1, x2, x3, x4, x5, x6, x7, x8, x9, x10, x11, x12, x13, x14, xf⟩ := bx.fifteen
                go_wp2_with fail
                refine (C2.out _).mono ?_
                rintro e w2 ⟨rfl, rfl⟩
                go_wp2_with fail
                refine (C3.out _).mono ?_
                rintro e w3 ⟨rfl, g1⟩
                clear x0 x1 x2 x3 x4 x5 x6 x7 x8 x9 x10 x11 x12 x13 x14 xf
                have BX3 := Lib.hid (bx.below g1)
                have BB3 := Lib.hid (BB1.out.trans (g1.mono BB1.out.size))
                clear g1 bx
                have bx := BX3.out
                obtain ⟨x0, x1, x2, x3, x4, x5, x6, x7, x8, x9, x10, x11, x12, x13, x14, xf⟩ := bx.fifteen
                go_wp2_with fail
                refine (C4.out _).mono ?_
                rintro e w4 ⟨rfl, g1⟩
                clear x0 x1 x2 x3 x4 x5 x6 x7 x8 x9 x10 x11 x12 x13 x14 xf
                have BX4 := Lib.hid (bx.below g1)
                have BB4 := Lib.hid (BB3.out.trans (g1.mono BB3.out.size))
                clear g1 bx
                have bx := BX4.out
                obtain ⟨x0, x1, x2, x3, x4, x5, x6, x7, x8, x9, x10, x11, x12, x13, x14, xf⟩ := bx.fifteen
                go_wp2_with fail
                all_goals
                  go_ret
                  exact ⟨rfl, BB4.out⟩
              · subst hR
                have bx := BX.out
                obtain ⟨x0, x1, x2, x3, x4, x5, x6, x7, x8, x9, x10, x11, x12, x13, x14, xf⟩ := bx.fifteen
                go_enter Tryd.func69, Tryd.ntmps69
                go_wp2_with fail
                refine (C1.out _).mono ?_
                rintro e w1 ⟨rfl, g1⟩
                clear x0 x1 x2 x3 x4 x5 x6 x7 x8 x9 x10 x11 x12 x13 x14 xf
                have BX1 := Lib.hid (bx.below g1)
                have BB1 := Lib.hid (BB.out.trans (g1.mono BB.out.size))
                clear g1 bx
                have bx := BX1.out
                obtain ⟨x0, x1, x2, x3, x4, x5, x6, x7, x8, x9, x10, x11, x12, x13, x14, xf⟩ := bx.fifteen
                go_wp2_with fail
                refine (C2.out _).mono ?_
                rintro e w2 ⟨rfl, rfl⟩
                go_wp2_with fail
                refine (C3.out _).mono ?_
                rintro e w3 ⟨rfl, g1⟩
                clear x0 x1 x2 x3 x4 x5 x6 x7 x8 x9 x10 x11 x12 x13 x14 xf
                have BX3 := Lib.hid (bx.below g1)
                have BB3 := Lib.hid (BB1.out.trans (g1.mono BB1.out.size))
                clear g1 bx
                have bx := BX3.out
                obtain ⟨x0, x1, x2, x3, x4, x5, x6, x7, x8, x9, x10, x11, x12, x13, x14, xf⟩ := bx.fifteen
                go_wp2_with fail
                refine (C4.out _).mono ?_
                rintro e w4 ⟨rfl, g1⟩
                clear x0 x1 x2 x3 x4 x5 x6 x7 x8 x9 x10 x11 x12 x13 x14 xf
                have BX4 := Lib.hid (bx.below g1)
                have BB4 := Lib.hid (BB3.out.trans (g1.mono BB3.out.size))
                clear g1 bx
                have bx := BX4.out
                obtain ⟨x0, x1, x2, x3, x4, x5, x6, x7, x8, x9, x10, x11, x12, x13, x14, xf⟩ := bx.fifteen
                go_wp2_with fail
                refine (C5.out _).mono ?_
                rintro e w5 ⟨rfl, g1⟩
                clear x0 x1 x2 x3 x4 x5 x6 x7 x8 x9 x10 x11 x12 x13 x14 xf
                have BX5 := Lib.hid (bx.below g1)
                have BB5 := Lib.hid (BB4.out.trans (g1.mono BB4.out.size))
                clear g1 bx
                have bx := BX5.out
                obtain ⟨x0, x1, x2, x3, x4, x5, x6, x7, x8, x9, x10, x11, x12, x13, x14, xf⟩ := bx.fifteen
                go_wp2_with fail
                all_goals
                  go_ret
                  exact ⟨rfl, BB5.out⟩
      · cases p5
        · cases q1
          · subst hR
            have bx := BX.out
            obtain ⟨x0, x1, x2, x3, x4, x5, x6, x7, x8, x9, x10, x11, x12, x13, x14, xf⟩ := bx.fifteen
            go_enter Tryd.func69, Tryd.ntmps69
            go_wp2_with fail
            refine (C1.out _).mono ?_
            rintro e w1 ⟨rfl, g1⟩
            clear x0 x1 x2 x3 x4 x5 x6 x7 x8 x9 x10 x11 x12 x13 x14 xf
            have BX1 := Lib.hid (bx.below g1)
            have BB1 := Lib.hid (BB.out.trans (g1.mono BB.out.size))
            clear g1 bx
            have bx := BX1.out
            obtain ⟨x0, x1, x2, x3, x4, x5, x6, x7, x8, x9, x10, x11, x12, x13, x14, xf⟩ := bx.fifteen
            go_wp2_with fail
            refine (C2.out _).mono ?_
            rintro e w2 ⟨rfl, rfl⟩
            go_wp2_with fail
            refine (C3.out _).mono ?_
            rintro e w3 ⟨rfl, g1⟩
            clear x0 x1 x2 x3 x4 x5 x6 x7 x8 x9 x10 x11 x12 x13 x14 xf
            have BX3 := Lib.hid (bx.below g1)
            have BB3 := Lib.hid (BB1.out.trans (g1.mono BB1.out.size))
            clear g1 bx
            have bx := BX3.out
            obtain ⟨x0, x1, x2, x3, x4, x5, x6, x7, x8, x9, x10, x11, x12, x13, x14, xf⟩ := bx.fifteen
            go_wp2_with fail
            refine (C7.out _).mono ?_
            rintro e w4 ⟨rfl, rfl⟩
            go_wp2_with fail
            all_goals
              go_ret
              exact ⟨rfl, BB3.out⟩
          · cases q2
            · subst hR
              have bx := BX.out
              obtain ⟨x0, x1, x2, x3, x4, x5, x6, x7, x8, x9, x10, x11, x12, x13, x14, xf⟩ := bx.fifteen
              go_enter Tryd.func69, Tryd.ntmps69
              go_wp2_with fail
              refine (C1.out _).mono ?_
              rintro e w1 ⟨rfl, g1⟩
              clear x0 x1 x2 x3 x4 x5 x6 x7 x8 x9 x10 x11 x12 x13 x14 xf
              have BX1 := Lib.hid (bx.below g1)
              have BB1 := Lib.hid (BB.out.trans (g1.mono BB.out.size))
              clear g1 bx
              have bx := BX1.out
              obtain ⟨x0, x1, x2, x3, x4, x5, x6, x7, x8, x9, x10, x11, x12, x13, x14, xf⟩ := bx.fifteen
              go_wp2_with fail
              refine (C2.out _).mono ?_
              rintro e w2 ⟨rfl, rfl⟩
              go_wp2_with fail
              refine (C3.out _).mono ?_
              rintro e w3 ⟨rfl, g1⟩
              clear x0 x1 x2 x3 x4 x5 x6 x7 x8 x9 x10 x11 x12 x13 x14 xf
              have BX3 := Lib.hid (bx.below g1)
              have BB3 := Lib.hid (BB1.out.trans (g1.mono BB1.out.size))
              clear g1 bx
              have bx := BX3.out
              obtain ⟨x0, x1, x2, x3, x4, x5, x6, x7, x8, x9, x10, x11, x12, x13, x14, xf⟩ := bx.fifteen
              go_wp2_with fail
              refine (C7.out _).mono ?_
              rintro e w4 ⟨rfl, rfl⟩
              go_wp2_with fail
              refine (C8.out _).mono ?_
              rintro e w5 ⟨rfl, rfl⟩
              go_wp2_with fail
              all_goals
                go_ret
                exact ⟨rfl, BB3.out⟩
            · cases p8
              · subst hR
                have bx := BX.out
                obtain ⟨x0, x1, x2, x3, x4, x5, x6, x7, x8, x9, x10, x11, x12, x13, x14, xf⟩ := bx.fifteen
                go_enter Tryd.func69, Tryd.ntmps69
                go_wp2_with fail
                refine (C1.out _).mono ?_
                rintro e w1 ⟨rfl, g1⟩
                clear x0 x1 x2 x3 x4 x5 x6 x7 x8 x9 x10 x11 x12 x13 x14 xf
                have BX1 := Lib.hid (bx.below g1)
                have BB1 := Lib.hid (BB.out.trans (g1.mono BB.out.size))
                clear g1 bx
                have bx := BX1.out
                obtain ⟨x0, x1, x2, x3, x4, x5, x6, x7, x8, x9, x10, x11, x12, x13, x14, xf⟩ := bx.fifteen
                go_wp2_with fail
                refine (C2.out _).mono ?_
                rintro e w2 ⟨rfl, rfl⟩
                go_wp2_with fail
                refine (C3.out _).mono ?_
                rintro e w3 ⟨rfl, g1⟩
                clear x0 x1 x2 x3 x4 x5 x6 x7 x8 x9 x10 x11 x12 x13 x14 xf
                have BX3 := Lib.hid (bx.below g1)
                have BB3 := Lib.hid (BB1.out.trans (g1.mono BB1.out.size))
                clear g1 bx
                have bx := BX3.out
                obtain ⟨x0, x1, x2, x3, x4, x5, x6, x7, x8, x9, x10, x11, x12, x13, x14, xf⟩ := bx.fifteen
                go_wp2_with fail
                refine (C7.out _).mono ?_
                rintro e w4 ⟨rfl, rfl⟩
                go_wp2_with fail
                refine (C8.out _).mono ?_
                rintro e w5 ⟨rfl, rfl⟩
                go_wp2_with fail
                refine (C5.out _).mono ?_
                rintro e w6 ⟨rfl, g1⟩
                clear x0 x1 x2 x3 x4 x5 x6 x7 x8 x9 x10 x11 x12 x13 x14 xf
                have BX6 := Lib.hid (bx.below g1)
                have BB6 := Lib.hid (BB3.out.trans (g1.mono BB3.out.size))
                clear g1 bx
                have bx := BX6.out
                obtain ⟨x0, x1, x2, x3, x4, x5, x6, x7, x8, x9, x10, x11, x12, x13, x14, xf⟩ := bx.fifteen
                go_wp2_with fail
                refine (C6.out _).mono ?_
                rintro e w7 ⟨rfl, g1⟩
                clear x0 x1 x2 x3 x4 x5 x6 x7 x8 x9 x10 x11 x12 x13 x14 xf
                have BX7 := Lib.hid (bx.below g1)
                have BB7 := Lib.hid (BB6.out.trans (g1.mono BB6.out.size))
                clear g1 bx
                have bx := BX7.out
                obtain ⟨x0, x1, x2, x3, x4, x5, x6, x7, x8, x9, x10, x11, x12, x13, x14, xf⟩ := bx.fifteen
                go_wp2_with fail
                all_goals
                  go_ret
                  exact ⟨rfl, BB7.out⟩
              · subst hR
                have bx := BX.out
                obtain ⟨x0, x1, x2, x3, x4, x5, x6, x7, x8, x9, x10, x11, x12, x13, x14, xf⟩ := bx.fifteen
                go_enter Tryd.func69, Tryd.ntmps69
                go_wp2_with fail
                refine (C1.out _).mono ?_
                rintro e w1 ⟨rfl, g1⟩
                clear x0 x1 x2 x3 x4 x5 x6 x7 x8 x9 x10 x11 x12 x13 x14 xf
                have BX1 := Lib.hid (bx.below g1)
                have BB1 := Lib.hid (BB.out.trans (g1.mono BB.out.size))
                clear g1 bx
                have bx := BX1.out
                obtain ⟨x0, x1, x2, x3, x4, x5, x6, x7, x8, x9, x10, x11, x12, x13, x14, xf⟩ := bx.fifteen
                go_wp2_with fail
                refine (C2.out _).mono ?_
                rintro e w2 ⟨rfl, rfl⟩
                go_wp2_with fail
                refine (C3.out _).mono ?_
                rintro e w3 ⟨rfl, g1⟩
                clear x0 x1 x2 x3 x4 x5 x6 x7 x8 x9 x10 x11 x12 x13 x14 xf
                have BX3 := Lib.hid (bx.below g1)
                have BB3 := Lib.hid (BB1.out.trans (g1.mono BB1.out.size))
                clear g1 bx
                have bx := BX3.out
                obtain ⟨x0, x1, x2, x3, x4, x5, x6, x7, x8, x9, x10, x11, x12, x13, x14, xf⟩ := bx.fifteen
                go_wp2_with fail
                refine (C7.out _).mono ?_
                rintro e w4 ⟨rfl, rfl⟩
                go_wp2_with fail
                refine (C8.out _).mono ?_
                rintro e w5 ⟨rfl, rfl⟩
                go_wp2_with fail
                refine (C5.out _).mono ?_
                rintro e w6 ⟨rfl, g1⟩
                clear x0 x1 x2 x3 x4 x5 x6 x7 x8 x9 x10 x11 x12 x13 x14 xf
                have BX6 := Lib.hid (bx.below g1)
                have BB6 := Lib.hid (BB3.out.trans (g1.mono BB3.out.size))
                clear g1 bx
                have bx := BX6.out
                obtain ⟨x0, x1, x2, x3, x4, x5, x6, x7, x8, x9, x10, x11, x12, x13, x14, xf⟩ := bx.fifteen
                go_wp2_with fail
                all_goals
                  go_ret
                  exact ⟨rfl, BB6.out⟩
        · cases p6
          · subst hR
            have bx := BX.out
            obtain ⟨x0, x1, x2, x3, x4, x5, x6, x7, x8, x9, x10, x11, x12, x13, x14, xf⟩ := bx.fifteen
            go_enter Tryd.func69, Tryd.ntmps69
            go_wp2_with fail
            refine (C1.out _).mono ?_
            rintro e w1 ⟨rfl, g1⟩
            clear x0 x1 x2 x3 x4 x5 x6 x7 x8 x9 x10 x11 x12 x13 x14 xf
            have BX1 := Lib.hid (bx.below g1)
            have BB1 := Lib.hid (BB.out.trans (g1.mono BB.out.size))
            clear g1 bx
            have bx := BX1.out
            obtain ⟨x0, x1, x2, x3, x4, x5, x6, x7, x8, x9, x10, x11, x12, x13, x14, xf⟩ := bx.fifteen
            go_wp2_with fail
            refine (C2.out _).mono ?_
            rintro e w2 ⟨rfl, rfl⟩
            go_wp2_with fail
            refine (C3.out _).mono ?_
            rintro e w3 ⟨rfl, g1⟩
            clear x0 x1 x2 x3 x4 x5 x6 x7 x8 x9 x10 x11 x12 x13 x14 xf
            have BX3 := Lib.hid (bx.below g1)
            have BB3 := Lib.hid (BB1.out.trans (g1.mono BB1.out.size))
            clear g1 bx
            have bx := BX3.out
            obtain ⟨x0, x1, x2, x3, x4, x5, x6, x7, x8, x9, x10, x11, x12, x13, x14, xf⟩ := bx.fifteen
            go_wp2_with fail
            all_goals
              go_ret
              exact ⟨rfl, BB3.out⟩
          · cases p7
            · subst hR
              have bx := BX.out
              obtain ⟨x0, x1, x2, x3, x4, x5, x6, x7, x8, x9, x10, x11, x12, x13, x14, xf⟩ := bx.fifteen
              go_enter Tryd.func69, Tryd.ntmps69
              go_wp2_with fail
              refine (C1.out _).mono ?_
              rintro e w1 ⟨rfl, g1⟩
              clear x0 x1 x2 x3 x4 x5 x6 x7 x8 x9 x10 x11 x12 x13 x14 xf
              have BX1 := Lib.hid (bx.below g1)
              have BB1 := Lib.hid (BB.out.trans (g1.mono BB.out.size))
              clear g1 bx
              have bx := BX1.out
              obtain ⟨x0, x1, x2, x3, x4, x5, x6, x7, x8, x9, x10, x11, x12, x13, x14, xf⟩ := bx.fifteen
              go_wp2_with fail
              refine (C2.out _).mono ?_
              rintro e w2 ⟨rfl, rfl⟩
              go_wp2_with fail
              refine (C3.out _).mono ?_
              rintro e w3 ⟨rfl, g1⟩
              clear x0 x1 x2 x3 x4 x5 x6 x7 x8 x9 x10 x11 x12 x13 x14 xf
              have BX3 := Lib.hid (bx.below g1)
              have BB3 := Lib.hid (BB1.out.trans (g1.mono BB1.out.size))
              clear g1 bx
              have bx := BX3.out
              obtain ⟨x0, x1, x2, x3, x4, x5, x6, x7, x8, x9, x10, x11, x12, x13, x14, xf⟩ := bx.fifteen
              go_wp2_with fail
              all_goals
                go_ret
                exact ⟨rfl, BB3.out⟩
            · subst hR
              have bx := BX.out
              obtain ⟨x0, x1, x2, x3, x4, x5, x6, x7, x8, x9, x10, x11, x12, x13, x14, xf⟩ := bx.fifteen
              go_enter Tryd.func69, Tryd.ntmps69
              go_wp2_with fail
              refine (C1.out _).mono ?_
              rintro e w1 ⟨rfl, g1⟩
              clear x0 x1 x2 x3 x4 x5 x6 x7 x8 x9 x10 x11 x12 x13 x14 xf
              have BX1 := Lib.hid (bx.below g1)
              have BB1 := Lib.hid (BB.out.trans (g1.mono BB.out.size))
              clear g1 bx
              have bx := BX1.out
              obtain ⟨x0, x1, x2, x3, x4, x5, x6, x7, x8, x9, x10, x11, x12, x13, x14, xf⟩ := bx.fifteen
              go_wp2_with fail
              refine (C2.out _).mono ?_
              rintro e w2 ⟨rfl, rfl⟩
              go_wp2_with fail
              refine (C3.out _).mono ?_
              rintro e w3 ⟨rfl, g1⟩
              clear x0 x1 x2 x3 x4 x5 x6 x7 x8 x9 x10 x11 x12 x13 x14 xf
              have BX3 := Lib.hid (bx.below g1)
              have BB3 := Lib.hid (BB1.out.trans (g1.mono BB1.out.size))
              clear g1 bx
              have bx := BX3.out
              obtain ⟨x0, x1, x2, x3, x4, x5, x6, x7, x8, x9, x10, x11, x12, x13, x14, xf⟩ := bx.fifteen
              go_wp2_with fail
              refine (C5.out _).mono ?_
              rintro e w4 ⟨rfl, g1⟩
              clear x0 x1 x2 x3 x4 x5 x6 x7 x8 x9 x10 x11 x12 x13 x14 xf
              have BX4 := Lib.hid (bx.below g1)
              have BB4 := Lib.hid (BB3.out.trans (g1.mono BB3.out.size))
              clear g1 bx
              have bx := BX4.out
              obtain ⟨x0, x1, x2, x3, x4, x5, x6, x7, x8, x9, x10, x11, x12, x13, x14, xf⟩ := bx.fifteen
              go_wp2_with fail
              all_goals
                go_ret
                exact ⟨rfl, BB4.out⟩
end Go.Proofs.YthapidnjioindaaDoor
