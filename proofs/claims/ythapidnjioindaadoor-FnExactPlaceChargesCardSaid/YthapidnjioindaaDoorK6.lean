/- Several small texts in one: RArms. -/
import Derived.Test.YthapidnjioindaaDoorKVV
import Derived.Test.YthapidnjioindaaDoorKH
import Derived.Test.YthapidnjioindaaDoorKE
import Derived.Test.YthapidnjioindaaDoorKQ
namespace Go.Proofs.YthapidnjioindaaDoor
open Go.RowKit

set_option maxRecDepth 100000 in
set_option maxHeartbeats 8000000 in
theorem validArms_impl (d l f s o n x c k a t c' k' a' t' : Int) (w : World) (r : Bool) (hr : aOkB d l f s o n x c k a t c' k' a' t' = r) (hA : AttsLie w) :
    Calls Tryd.prog 73 #[.agg #[.int .i64 d, .int .i64 l, .int .i64 f, .int .i64 s, .int .i64 o, .int .i64 n, .int .i64 x, .int .i64 c, .int .i64 k, .int .i64 a, .int .i64 t, .int .i64 c', .int .i64 k', .int .i64 a', .int .i64 t']] w fun e w' => e = .returned (.bool r) ∧ Below w.heap.size w w' := by
  obtain ⟨pF, eF⟩ : ∃ p, decide (FOk d l f s) = p := ⟨_, rfl⟩
  obtain ⟨pA, eA⟩ : ∃ p, gAnyB c' k' a' t' = p := ⟨_, rfl⟩
  obtain ⟨pO, eO⟩ : ∃ p, gAnyB c k a t = p := ⟨_, rfl⟩
  obtain ⟨pL, eL⟩ : ∃ p, decide (0 ≤ n ∧ n ≤ 4) = p := ⟨_, rfl⟩
  obtain ⟨pT, eT⟩ : ∃ p, decide (1 ≤ x ∧ x ≤ 9) = p := ⟨_, rfl⟩
  have CF := Lib.hid (fun W => validField_impl d l f s W pF eF)
  have CA := Lib.hid (fun W (hb : Below w.heap.size w W) => groupOrNone_impl c' k' a' t' W pA eA (hA.below hb))
  have CO := Lib.hid (fun W (hb : Below w.heap.size w W) => groupOrNone_impl c k a t W pO eO (hA.below hb))
  have CL := Lib.hid (fun W => isLine_any n W pL eL)
  have CT := Lib.hid (fun W => isT_any x W pT eT)
  have hR : r = (pF && (decide (0 ≤ o ∧ o ≤ 7) && (pA && (if o = 0 then (n == 0) && ((x == 0) && gNoB c k a t) else pL && (pT && pO))))) := by
    rw [← hr, ← eF, ← eA, ← eO, ← eL, ← eT]; rfl
  clear hr eF eA eO eL eT hA
  cases pF
  · rw [Bool.false_and] at hR
    subst hR
    have BX0 := Lib.hid (BoxF.new w [.int .i64 d, .int .i64 l, .int .i64 f, .int .i64 s, .int .i64 o, .int .i64 n, .int .i64 x, .int .i64 c, .int .i64 k, .int .i64 a, .int .i64 t, .int .i64 c', .int .i64 k', .int .i64 a', .int .i64 t'] 60)
    have BB0 : Hid (Below w.heap.size w (w.alloc (.cells #[.int .i64 d, .int .i64 l, .int .i64 f, .int .i64 s, .int .i64 o, .int .i64 n, .int .i64 x, .int .i64 c, .int .i64 k, .int .i64 a, .int .i64 t, .int .i64 c', .int .i64 k', .int .i64 a', .int .i64 t'] 60 (0, 0)))) := Lib.hid ((Below.refl _ w).alloc (Nat.le_refl _) _)
    have bx := BX0.out
    obtain ⟨x0, x1, x2, x3, x4, x5, x6, x7, x8, x9, x10, x11, x12, x13, x14, xf⟩ := bx.fifteen
    go_enter Tryd.func73, Tryd.ntmps73
    go_wp2_with fail
    refine (CF.out _).mono ?_
    rintro e w1 ⟨rfl, g1⟩
    clear x0 x1 x2 x3 x4 x5 x6 x7 x8 x9 x10 x11 x12 x13 x14 xf
    have BX1 := Lib.hid (BX0.out.below g1)
    have BB1 := Lib.hid (BB0.out.trans (g1.mono BB0.out.size))
    clear g1 bx
    have bx := BX1.out
    obtain ⟨x0, x1, x2, x3, x4, x5, x6, x7, x8, x9, x10, x11, x12, x13, x14, xf⟩ := bx.fifteen
    go_wp2_with fail
    go_ret
    exact ⟨rfl, BB1.out⟩
  · cases pA
    · rw [Bool.false_and, Bool.and_false, Bool.and_false] at hR
      subst hR
      have BX0 := Lib.hid (BoxF.new w [.int .i64 d, .int .i64 l, .int .i64 f, .int .i64 s, .int .i64 o, .int .i64 n, .int .i64 x, .int .i64 c, .int .i64 k, .int .i64 a, .int .i64 t, .int .i64 c', .int .i64 k', .int .i64 a', .int .i64 t'] 60)
      have BB0 : Hid (Below w.heap.size w (w.alloc (.cells #[.int .i64 d, .int .i64 l, .int .i64 f, .int .i64 s, .int .i64 o, .int .i64 n, .int .i64 x, .int .i64 c, .int .i64 k, .int .i64 a, .int .i64 t, .int .i64 c', .int .i64 k', .int .i64 a', .int .i64 t'] 60 (0, 0)))) := Lib.hid ((Below.refl _ w).alloc (Nat.le_refl _) _)
      have bx := BX0.out
      obtain ⟨x0, x1, x2, x3, x4, x5, x6, x7, x8, x9, x10, x11, x12, x13, x14, xf⟩ := bx.fifteen
      go_enter Tryd.func73, Tryd.ntmps73
      go_wp2_with fail
      refine (CF.out _).mono ?_
      rintro e w1 ⟨rfl, g1⟩
      clear x0 x1 x2 x3 x4 x5 x6 x7 x8 x9 x10 x11 x12 x13 x14 xf
      have BX1 := Lib.hid (BX0.out.below g1)
      have BB1 := Lib.hid (BB0.out.trans (g1.mono BB0.out.size))
      clear g1 bx
      have bx := BX1.out
      obtain ⟨x0, x1, x2, x3, x4, x5, x6, x7, x8, x9, x10, x11, x12, x13, x14, xf⟩ := bx.fifteen
      go_wp2_with fail
      refine (CA.out _ BB1.out).mono ?_
      rintro e w2 ⟨rfl, g1⟩
      clear x0 x1 x2 x3 x4 x5 x6 x7 x8 x9 x10 x11 x12 x13 x14 xf
      have BX2 := Lib.hid (BX1.out.below g1)
      have BB2 := Lib.hid (BB1.out.trans (g1.mono BB1.out.size))
      clear g1 bx
      have bx := BX2.out
      obtain ⟨x0, x1, x2, x3, x4, x5, x6, x7, x8, x9, x10, x11, x12, x13, x14, xf⟩ := bx.fifteen
      go_wp2_with fail
      go_ret
      exact ⟨rfl, BB2.out⟩
    · rw [Bool.true_and, Bool.true_and] at hR
      by_cases h0 : o = 0
      · subst h0
        have hR2 : r = decide (d = d ∧ l = l ∧ f = f ∧ s = s ∧ (0 : Int) = 0 ∧ n = 0 ∧ x = 0 ∧ c = 0 ∧ k = 0 ∧ a = 0 ∧ t = 0 ∧ c' = c' ∧ k' = k' ∧ a' = a' ∧ t' = t') := by
          rw [hR, if_pos rfl]
          unfold gNoB
          by_cases h1 : n = 0 <;> by_cases h2 : x = 0 <;> by_cases h3 : c = 0 <;> by_cases h4 : k = 0 <;> by_cases h5 : a = 0 <;> by_cases h6 : t = 0 <;> simp [h1, h2, h3, h4, h5, h6]
        clear hR
        have RQ := fun W => eqArms_run d l f s 0 n x c k a t c' k' a' t' d l f s 0 0 0 0 0 0 0 c' k' a' t' W
        rw [← hR2] at RQ
        clear hR2
        have BX0 := Lib.hid (BoxF.new w [.int .i64 d, .int .i64 l, .int .i64 f, .int .i64 s, .int .i64 0, .int .i64 n, .int .i64 x, .int .i64 c, .int .i64 k, .int .i64 a, .int .i64 t, .int .i64 c', .int .i64 k', .int .i64 a', .int .i64 t'] 60)
        have BB0 : Hid (Below w.heap.size w (w.alloc (.cells #[.int .i64 d, .int .i64 l, .int .i64 f, .int .i64 s, .int .i64 0, .int .i64 n, .int .i64 x, .int .i64 c, .int .i64 k, .int .i64 a, .int .i64 t, .int .i64 c', .int .i64 k', .int .i64 a', .int .i64 t'] 60 (0, 0)))) := Lib.hid ((Below.refl _ w).alloc (Nat.le_refl _) _)
        have bx := BX0.out
        obtain ⟨x0, x1, x2, x3, x4, x5, x6, x7, x8, x9, x10, x11, x12, x13, x14, xf⟩ := bx.fifteen
        go_enter Tryd.func73, Tryd.ntmps73
        go_wp2_with fail
        refine (CF.out _).mono ?_
        rintro e w1 ⟨rfl, g1⟩
        clear x0 x1 x2 x3 x4 x5 x6 x7 x8 x9 x10 x11 x12 x13 x14 xf
        have BX1 := Lib.hid (BX0.out.below g1)
        have BB1 := Lib.hid (BB0.out.trans (g1.mono BB0.out.size))
        clear g1 bx
        have bx := BX1.out
        obtain ⟨x0, x1, x2, x3, x4, x5, x6, x7, x8, x9, x10, x11, x12, x13, x14, xf⟩ := bx.fifteen
        go_wp2_with fail
        refine (CA.out _ BB1.out).mono ?_
        rintro e w2 ⟨rfl, g1⟩
        clear x0 x1 x2 x3 x4 x5 x6 x7 x8 x9 x10 x11 x12 x13 x14 xf
        have BX2 := Lib.hid (BX1.out.below g1)
        have BB2 := Lib.hid (BB1.out.trans (g1.mono BB1.out.size))
        clear g1 bx
        have bx := BX2.out
        obtain ⟨x0, x1, x2, x3, x4, x5, x6, x7, x8, x9, x10, x11, x12, x13, x14, xf⟩ := bx.fifteen
        go_wp2_with fail
        have Q := RQ
        go_ret
        exact ⟨rfl, BB2.out⟩
      · rw [if_neg h0] at hR
        have e0 : (o == 0) = false := by rw [beq_eq_false_iff_ne]; exact h0
        obtain ⟨pI, eI⟩ : ∃ p, decide (1 ≤ o ∧ o ≤ 7) = p := ⟨_, rfl⟩
        have CI := Lib.hid (fun W => isOrdinary_any o W pI eI)
        have e7 : decide (0 ≤ o ∧ o ≤ 7) = pI := by rw [← eI]; exact decide_eq_decide.2 (by omega)
        rw [e7] at hR
        subst hR
        clear h0 eI e7
        cases pI
        · have BX0 := Lib.hid (BoxF.new w [.int .i64 d, .int .i64 l, .int .i64 f, .int .i64 s, .int .i64 o, .int .i64 n, .int .i64 x, .int .i64 c, .int .i64 k, .int .i64 a, .int .i64 t, .int .i64 c', .int .i64 k', .int .i64 a', .int .i64 t'] 60)
          have BB0 : Hid (Below w.heap.size w (w.alloc (.cells #[.int .i64 d, .int .i64 l, .int .i64 f, .int .i64 s, .int .i64 o, .int .i64 n, .int .i64 x, .int .i64 c, .int .i64 k, .int .i64 a, .int .i64 t, .int .i64 c', .int .i64 k', .int .i64 a', .int .i64 t'] 60 (0, 0)))) := Lib.hid ((Below.refl _ w).alloc (Nat.le_refl _) _)
          have bx := BX0.out
          obtain ⟨x0, x1, x2, x3, x4, x5, x6, x7, x8, x9, x10, x11, x12, x13, x14, xf⟩ := bx.fifteen
          go_enter Tryd.func73, Tryd.ntmps73
          go_wp2_with fail
          refine (CF.out _).mono ?_
          rintro e w1 ⟨rfl, g1⟩
          clear x0 x1 x2 x3 x4 x5 x6 x7 x8 x9 x10 x11 x12 x13 x14 xf
          have BX1 := Lib.hid (BX0.out.below g1)
          have BB1 := Lib.hid (BB0.out.trans (g1.mono BB0.out.size))
          clear g1 bx
          have bx := BX1.out
          obtain ⟨x0, x1, x2, x3, x4, x5, x6, x7, x8, x9, x10, x11, x12, x13, x14, xf⟩ := bx.fifteen
          go_wp2_with fail
          refine (CA.out _ BB1.out).mono ?_
          rintro e w2 ⟨rfl, g1⟩
          clear x0 x1 x2 x3 x4 x5 x6 x7 x8 x9 x10 x11 x12 x13 x14 xf
          have BX2 := Lib.hid (BX1.out.below g1)
          have BB2 := Lib.hid (BB1.out.trans (g1.mono BB1.out.size))
          clear g1 bx
          have bx := BX2.out
          obtain ⟨x0, x1, x2, x3, x4, x5, x6, x7, x8, x9, x10, x11, x12, x13, x14, xf⟩ := bx.fifteen
          go_wp2_with fail
          refine (CI.out _).mono ?_
          rintro e w_ ⟨rfl, rfl⟩
          go_wp2_with fail
          go_ret
          exact ⟨rfl, BB2.out⟩
        · cases pL
          · have BX0 := Lib.hid (BoxF.new w [.int .i64 d, .int .i64 l, .int .i64 f, .int .i64 s, .int .i64 o, .int .i64 n, .int .i64 x, .int .i64 c, .int .i64 k, .int .i64 a, .int .i64 t, .int .i64 c', .int .i64 k', .int .i64 a', .int .i64 t'] 60)
            have BB0 : Hid (Below w.heap.size w (w.alloc (.cells #[.int .i64 d, .int .i64 l, .int .i64 f, .int .i64 s, .int .i64 o, .int .i64 n, .int .i64 x, .int .i64 c, .int .i64 k, .int .i64 a, .int .i64 t, .int .i64 c', .int .i64 k', .int .i64 a', .int .i64 t'] 60 (0, 0)))) := Lib.hid ((Below.refl _ w).alloc (Nat.le_refl _) _)
            have bx := BX0.out
            obtain ⟨x0, x1, x2, x3, x4, x5, x6, x7, x8, x9, x10, x11, x12, x13, x14, xf⟩ := bx.fifteen
            go_enter Tryd.func73, Tryd.ntmps73
            go_wp2_with fail
            refine (CF.out _).mono ?_
            rintro e w1 ⟨rfl, g1⟩
            clear x0 x1 x2 x3 x4 x5 x6 x7 x8 x9 x10 x11 x12 x13 x14 xf
            have BX1 := Lib.hid (BX0.out.below g1)
            have BB1 := Lib.hid (BB0.out.trans (g1.mono BB0.out.size))
            clear g1 bx
            have bx := BX1.out
            obtain ⟨x0, x1, x2, x3, x4, x5, x6, x7, x8, x9, x10, x11, x12, x13, x14, xf⟩ := bx.fifteen
            go_wp2_with fail
            refine (CA.out _ BB1.out).mono ?_
            rintro e w2 ⟨rfl, g1⟩
            clear x0 x1 x2 x3 x4 x5 x6 x7 x8 x9 x10 x11 x12 x13 x14 xf
            have BX2 := Lib.hid (BX1.out.below g1)
            have BB2 := Lib.hid (BB1.out.trans (g1.mono BB1.out.size))
            clear g1 bx
            have bx := BX2.out
            obtain ⟨x0, x1, x2, x3, x4, x5, x6, x7, x8, x9, x10, x11, x12, x13, x14, xf⟩ := bx.fifteen
            go_wp2_with fail
            refine (CI.out _).mono ?_
            rintro e w_ ⟨rfl, rfl⟩
            go_wp2_with fail
            refine (CL.out _).mono ?_
            rintro e w_ ⟨rfl, rfl⟩
            go_wp2_with fail
            go_ret
            exact ⟨rfl, BB2.out⟩
          · cases pT
            · have BX0 := Lib.hid (BoxF.new w [.int .i64 d, .int .i64 l, .int .i64 f, .int .i64 s, .int .i64 o, .int .i64 n, .int .i64 x, .int .i64 c, .int .i64 k, .int .i64 a, .int .i64 t, .int .i64 c', .int .i64 k', .int .i64 a', .int .i64 t'] 60)
              have BB0 : Hid (Below w.heap.size w (w.alloc (.cells #[.int .i64 d, .int .i64 l, .int .i64 f, .int .i64 s, .int .i64 o, .int .i64 n, .int .i64 x, .int .i64 c, .int .i64 k, .int .i64 a, .int .i64 t, .int .i64 c', .int .i64 k', .int .i64 a', .int .i64 t'] 60 (0, 0)))) := Lib.hid ((Below.refl _ w).alloc (Nat.le_refl _) _)
              have bx := BX0.out
              obtain ⟨x0, x1, x2, x3, x4, x5, x6, x7, x8, x9, x10, x11, x12, x13, x14, xf⟩ := bx.fifteen
              go_enter Tryd.func73, Tryd.ntmps73
              go_wp2_with fail
              refine (CF.out _).mono ?_
              rintro e w1 ⟨rfl, g1⟩
              clear x0 x1 x2 x3 x4 x5 x6 x7 x8 x9 x10 x11 x12 x13 x14 xf
              have BX1 := Lib.hid (BX0.out.below g1)
              have BB1 := Lib.hid (BB0.out.trans (g1.mono BB0.out.size))
              clear g1 bx
              have bx := BX1.out
              obtain ⟨x0, x1, x2, x3, x4, x5, x6, x7, x8, x9, x10, x11, x12, x13, x14, xf⟩ := bx.fifteen
              go_wp2_with fail
              refine (CA.out _ BB1.out).mono ?_
              rintro e w2 ⟨rfl, g1⟩
              clear x0 x1 x2 x3 x4 x5 x6 x7 x8 x9 x10 x11 x12 x13 x14 xf
              have BX2 := Lib.hid (BX1.out.below g1)
              have BB2 := Lib.hid (BB1.out.trans (g1.mono BB1.out.size))
              clear g1 bx
              have bx := BX2.out
              obtain ⟨x0, x1, x2, x3, x4, x5, x6, x7, x8, x9, x10, x11, x12, x13, x14, xf⟩ := bx.fifteen
              go_wp2_with fail
              refine (CI.out _).mono ?_
              rintro e w_ ⟨rfl, rfl⟩
              go_wp2_with fail
              refine (CL.out _).mono ?_
              rintro e w_ ⟨rfl, rfl⟩
              go_wp2_with fail
              refine (CT.out _).mono ?_
              rintro e w_ ⟨rfl, rfl⟩
              go_wp2_with fail
              go_ret
              exact ⟨rfl, BB2.out⟩
            · have BX0 := Lib.hid (BoxF.new w [.int .i64 d, .int .i64 l, .int .i64 f, .int .i64 s, .int .i64 o, .int .i64 n, .int .i64 x, .int .i64 c, .int .i64 k, .int .i64 a, .int .i64 t, .int .i64 c', .int .i64 k', .int .i64 a', .int .i64 t'] 60)
              have BB0 : Hid (Below w.heap.size w (w.alloc (.cells #[.int .i64 d, .int .i64 l, .int .i64 f, .int .i64 s, .int .i64 o, .int .i64 n, .int .i64 x, .int .i64 c, .int .i64 k, .int .i64 a, .int .i64 t, .int .i64 c', .int .i64 k', .int .i64 a', .int .i64 t'] 60 (0, 0)))) := Lib.hid ((Below.refl _ w).alloc (Nat.le_refl _) _)
              have bx := BX0.out
              obtain ⟨x0, x1, x2, x3, x4, x5, x6, x7, x8, x9, x10, x11, x12, x13, x14, xf⟩ := bx.fifteen
              go_enter Tryd.func73, Tryd.ntmps73
              go_wp2_with fail
              refine (CF.out _).mono ?_
              rintro e w1 ⟨rfl, g1⟩
              clear x0 x1 x2 x3 x4 x5 x6 x7 x8 x9 x10 x11 x12 x13 x14 xf
              have BX1 := Lib.hid (BX0.out.below g1)
              have BB1 := Lib.hid (BB0.out.trans (g1.mono BB0.out.size))
              clear g1 bx
              have bx := BX1.out
              obtain ⟨x0, x1, x2, x3, x4, x5, x6, x7, x8, x9, x10, x11, x12, x13, x14, xf⟩ := bx.fifteen
              go_wp2_with fail
              refine (CA.out _ BB1.out).mono ?_
              rintro e w2 ⟨rfl, g1⟩
              clear x0 x1 x2 x3 x4 x5 x6 x7 x8 x9 x10 x11 x12 x13 x14 xf
              have BX2 := Lib.hid (BX1.out.below g1)
              have BB2 := Lib.hid (BB1.out.trans (g1.mono BB1.out.size))
              clear g1 bx
              have bx := BX2.out
              obtain ⟨x0, x1, x2, x3, x4, x5, x6, x7, x8, x9, x10, x11, x12, x13, x14, xf⟩ := bx.fifteen
              go_wp2_with fail
              refine (CI.out _).mono ?_
              rintro e w_ ⟨rfl, rfl⟩
              go_wp2_with fail
              refine (CL.out _).mono ?_
              rintro e w_ ⟨rfl, rfl⟩
              go_wp2_with fail
              refine (CT.out _).mono ?_
              rintro e w_ ⟨rfl, rfl⟩
              go_wp2_with fail
              refine (CO.out _ BB2.out).mono ?_
              rintro e w3 ⟨rfl, g1⟩
              clear x0 x1 x2 x3 x4 x5 x6 x7 x8 x9 x10 x11 x12 x13 x14 xf
              have BX3 := Lib.hid (BX2.out.below g1)
              have BB3 := Lib.hid (BB2.out.trans (g1.mono BB2.out.size))
              clear g1 bx
              have bx := BX3.out
              obtain ⟨x0, x1, x2, x3, x4, x5, x6, x7, x8, x9, x10, x11, x12, x13, x14, xf⟩ := bx.fifteen
              go_wp2_with fail
              go_ret
              exact ⟨by first | rfl | simp, BB3.out⟩
end Go.Proofs.YthapidnjioindaaDoor
