/- Contracts: the program's arms that are returned if they are valid, its layer counts and charge totals. -/
import Derived.Test.YtpcghkciibbmgaaDoorRArms
import Derived.Test.YtpcghkciibbmgaaDoorArms3
import Derived.Test.YtpcghkciibbmgaaDoorPlaces2
namespace Go.Proofs.YtpcghkciibbmgaaDoor
open Go.RowKit

set_option maxRecDepth 100000 in
set_option maxHeartbeats 8000000 in
theorem armsIf_false (d l f s o n x c k a t c' k' a' t' : Int) (w : World) (h : aOkB d l f s o n x c k a t c' k' a' t' = false) (hA : AttsLie w) :
    Calls Tryd.prog 29 #[.agg #[.int .i64 d, .int .i64 l, .int .i64 f, .int .i64 s, .int .i64 o, .int .i64 n, .int .i64 x, .int .i64 c, .int .i64 k, .int .i64 a, .int .i64 t, .int .i64 c', .int .i64 k', .int .i64 a', .int .i64 t']] w (AnsA w 0 0 0 0 0 0 0 0 0 0 0 0 0 0 0 false) := by
  have CV := Lib.hid (fun W (hb : Below w.heap.size w W) => validArms_impl d l f s o n x c k a t c' k' a' t' W false h (hA.below hb))
  clear h hA
  have b_P := (BoxF.new w [.int .i64 d, .int .i64 l, .int .i64 f, .int .i64 s, .int .i64 o, .int .i64 n, .int .i64 x, .int .i64 c, .int .i64 k, .int .i64 a, .int .i64 t, .int .i64 c', .int .i64 k', .int .i64 a', .int .i64 t'] 29).alloc (.cells #[.int .i64 0, .int .i64 0, .int .i64 0, .int .i64 0, .int .i64 0, .int .i64 0, .int .i64 0, .int .i64 0, .int .i64 0, .int .i64 0, .int .i64 0, .int .i64 0, .int .i64 0, .int .i64 0, .int .i64 0] 29 (0, 0))
  have b_R := BoxF.new (w.alloc (.cells #[.int .i64 d, .int .i64 l, .int .i64 f, .int .i64 s, .int .i64 o, .int .i64 n, .int .i64 x, .int .i64 c, .int .i64 k, .int .i64 a, .int .i64 t, .int .i64 c', .int .i64 k', .int .i64 a', .int .i64 t'] 29 (0, 0))) [.int .i64 0, .int .i64 0, .int .i64 0, .int .i64 0, .int .i64 0, .int .i64 0, .int .i64 0, .int .i64 0, .int .i64 0, .int .i64 0, .int .i64 0, .int .i64 0, .int .i64 0, .int .i64 0, .int .i64 0] 29
  simp only [World.size_alloc] at b_R
  have bb_ : Below w.heap.size w ((w.alloc (.cells #[.int .i64 d, .int .i64 l, .int .i64 f, .int .i64 s, .int .i64 o, .int .i64 n, .int .i64 x, .int .i64 c, .int .i64 k, .int .i64 a, .int .i64 t, .int .i64 c', .int .i64 k', .int .i64 a', .int .i64 t'] 29 (0, 0))).alloc (.cells #[.int .i64 0, .int .i64 0, .int .i64 0, .int .i64 0, .int .i64 0, .int .i64 0, .int .i64 0, .int .i64 0, .int .i64 0, .int .i64 0, .int .i64 0, .int .i64 0, .int .i64 0, .int .i64 0, .int .i64 0] 29 (0, 0))) := ((Below.refl _ w).alloc (by first | exact Nat.le_refl _ | (simp; done) | (simp; omega)) (.cells #[.int .i64 d, .int .i64 l, .int .i64 f, .int .i64 s, .int .i64 o, .int .i64 n, .int .i64 x, .int .i64 c, .int .i64 k, .int .i64 a, .int .i64 t, .int .i64 c', .int .i64 k', .int .i64 a', .int .i64 t'] 29 (0, 0))).alloc (by first | exact Nat.le_refl _ | (simp; done) | (simp; omega)) (.cells #[.int .i64 0, .int .i64 0, .int .i64 0, .int .i64 0, .int .i64 0, .int .i64 0, .int .i64 0, .int .i64 0, .int .i64 0, .int .i64 0, .int .i64 0, .int .i64 0, .int .i64 0, .int .i64 0, .int .i64 0] 29 (0, 0))
  have XP0 := Lib.hid b_P
  have XR0 := Lib.hid b_R
  have BB0 := Lib.hid bb_
  clear bb_ b_P b_R
  have b_P := XP0.out
  obtain ⟨x0, x1, x2, x3, x4, x5, x6, x7, x8, x9, x10, x11, x12, x13, x14, xf⟩ := b_P.fifteen
  clear b_P
  go_enter Tryd.func29, Tryd.ntmps29
  go_wp2_with fail
  refine (CV.out _ BB0.out).mono ?_
  rintro e w1 ⟨rfl, g1⟩
  clear x0 x1 x2 x3 x4 x5 x6 x7 x8 x9 x10 x11 x12 x13 x14 xf
  have XP1 := Lib.hid (XP0.out.below g1)
  have XR1 := Lib.hid (XR0.out.below g1)
  have BB1 := Lib.hid (BB0.out.trans (g1.mono BB0.out.size))
  clear XP0 XR0 BB0 g1
  have b_R := XR1.out
  obtain ⟨z0, z1, z2, z3, z4, z5, z6, z7, z8, z9, z10, z11, z12, z13, z14, zf⟩ := b_R.fifteen
  clear b_R
  go_wp2_with fail
  clear z0 z1 z2 z3 z4 z5 z6 z7 z8 z9 z10 z11 z12 z13 z14 zf
  have BR := BoxF.all15 (v0 := .int .i64 0) (v1 := .int .i64 0) (v2 := .int .i64 0) (v3 := .int .i64 0) (v4 := .int .i64 0) (v5 := .int .i64 0) (v6 := .int .i64 0) (v7 := .int .i64 0) (v8 := .int .i64 0) (v9 := .int .i64 0) (v10 := .int .i64 0) (v11 := .int .i64 0) (v12 := .int .i64 0) (v13 := .int .i64 0) (v14 := .int .i64 0) (XR1.out)
  have BE := BB1.out.grown (grown15 w1 (w.heap.size + 1) (.int .i64 0) (.int .i64 0) (.int .i64 0) (.int .i64 0) (.int .i64 0) (.int .i64 0) (.int .i64 0) (.int .i64 0) (.int .i64 0) (.int .i64 0) (.int .i64 0) (.int .i64 0) (.int .i64 0) (.int .i64 0) (.int .i64 0)) BB1.out.size (fun q e => by cases e; omega)
  generalize (((((((((((((((w1.setCell ⟨w.heap.size + 1, 0, none⟩ (.int .i64 0)).setCell ⟨w.heap.size + 1, 1, none⟩ (.int .i64 0)).setCell ⟨w.heap.size + 1, 2, none⟩ (.int .i64 0)).setCell ⟨w.heap.size + 1, 3, none⟩ (.int .i64 0)).setCell ⟨w.heap.size + 1, 4, none⟩ (.int .i64 0)).setCell ⟨w.heap.size + 1, 5, none⟩ (.int .i64 0)).setCell ⟨w.heap.size + 1, 6, none⟩ (.int .i64 0)).setCell ⟨w.heap.size + 1, 7, none⟩ (.int .i64 0)).setCell ⟨w.heap.size + 1, 8, none⟩ (.int .i64 0)).setCell ⟨w.heap.size + 1, 9, none⟩ (.int .i64 0)).setCell ⟨w.heap.size + 1, 10, none⟩ (.int .i64 0)).setCell ⟨w.heap.size + 1, 11, none⟩ (.int .i64 0)).setCell ⟨w.heap.size + 1, 12, none⟩ (.int .i64 0)).setCell ⟨w.heap.size + 1, 13, none⟩ (.int .i64 0)).setCell ⟨w.heap.size + 1, 14, none⟩ (.int .i64 0)) = WE at *
  obtain ⟨z0, z1, z2, z3, z4, z5, z6, z7, z8, z9, z10, z11, z12, z13, z14, zf⟩ := BR.fifteen
  exact bodyPost_ret (v := .tuple #[.agg #[.int .i64 0, .int .i64 0, .int .i64 0, .int .i64 0, .int .i64 0, .int .i64 0, .int .i64 0, .int .i64 0, .int .i64 0, .int .i64 0, .int .i64 0, .int .i64 0, .int .i64 0, .int .i64 0, .int .i64 0], .bool false]) (by simp [results, Tryd.results29, go_sem, z0, z1, z2, z3, z4, z5, z6, z7, z8, z9, z10, z11, z12, z13, z14]) rfl ⟨rfl, BE⟩
set_option maxRecDepth 100000 in
set_option maxHeartbeats 8000000 in
theorem armsIf_true (d l f s o n x c k a t c' k' a' t' : Int) (w : World) (h : aOkB d l f s o n x c k a t c' k' a' t' = true) (hA : AttsLie w) :
    Calls Tryd.prog 29 #[.agg #[.int .i64 d, .int .i64 l, .int .i64 f, .int .i64 s, .int .i64 o, .int .i64 n, .int .i64 x, .int .i64 c, .int .i64 k, .int .i64 a, .int .i64 t, .int .i64 c', .int .i64 k', .int .i64 a', .int .i64 t']] w (AnsA w d l f s o n x c k a t c' k' a' t' true) := by
  have CV := Lib.hid (fun W (hb : Below w.heap.size w W) => validArms_impl d l f s o n x c k a t c' k' a' t' W true h (hA.below hb))
  clear h hA
  have b_P := (BoxF.new w [.int .i64 d, .int .i64 l, .int .i64 f, .int .i64 s, .int .i64 o, .int .i64 n, .int .i64 x, .int .i64 c, .int .i64 k, .int .i64 a, .int .i64 t, .int .i64 c', .int .i64 k', .int .i64 a', .int .i64 t'] 29).alloc (.cells #[.int .i64 0, .int .i64 0, .int .i64 0, .int .i64 0, .int .i64 0, .int .i64 0, .int .i64 0, .int .i64 0, .int .i64 0, .int .i64 0, .int .i64 0, .int .i64 0, .int .i64 0, .int .i64 0, .int .i64 0] 29 (0, 0))
  have b_R := BoxF.new (w.alloc (.cells #[.int .i64 d, .int .i64 l, .int .i64 f, .int .i64 s, .int .i64 o, .int .i64 n, .int .i64 x, .int .i64 c, .int .i64 k, .int .i64 a, .int .i64 t, .int .i64 c', .int .i64 k', .int .i64 a', .int .i64 t'] 29 (0, 0))) [.int .i64 0, .int .i64 0, .int .i64 0, .int .i64 0, .int .i64 0, .int .i64 0, .int .i64 0, .int .i64 0, .int .i64 0, .int .i64 0, .int .i64 0, .int .i64 0, .int .i64 0, .int .i64 0, .int .i64 0] 29
  simp only [World.size_alloc] at b_R
  have bb_ : Below w.heap.size w ((w.alloc (.cells #[.int .i64 d, .int .i64 l, .int .i64 f, .int .i64 s, .int .i64 o, .int .i64 n, .int .i64 x, .int .i64 c, .int .i64 k, .int .i64 a, .int .i64 t, .int .i64 c', .int .i64 k', .int .i64 a', .int .i64 t'] 29 (0, 0))).alloc (.cells #[.int .i64 0, .int .i64 0, .int .i64 0, .int .i64 0, .int .i64 0, .int .i64 0, .int .i64 0, .int .i64 0, .int .i64 0, .int .i64 0, .int .i64 0, .int .i64 0, .int .i64 0, .int .i64 0, .int .i64 0] 29 (0, 0))) := ((Below.refl _ w).alloc (by first | exact Nat.le_refl _ | (simp; done) | (simp; omega)) (.cells #[.int .i64 d, .int .i64 l, .int .i64 f, .int .i64 s, .int .i64 o, .int .i64 n, .int .i64 x, .int .i64 c, .int .i64 k, .int .i64 a, .int .i64 t, .int .i64 c', .int .i64 k', .int .i64 a', .int .i64 t'] 29 (0, 0))).alloc (by first | exact Nat.le_refl _ | (simp; done) | (simp; omega)) (.cells #[.int .i64 0, .int .i64 0, .int .i64 0, .int .i64 0, .int .i64 0, .int .i64 0, .int .i64 0, .int .i64 0, .int .i64 0, .int .i64 0, .int .i64 0, .int .i64 0, .int .i64 0, .int .i64 0, .int .i64 0] 29 (0, 0))
  have XP0 := Lib.hid b_P
  have XR0 := Lib.hid b_R
  have BB0 := Lib.hid bb_
  clear bb_ b_P b_R
  have b_P := XP0.out
  obtain ⟨x0, x1, x2, x3, x4, x5, x6, x7, x8, x9, x10, x11, x12, x13, x14, xf⟩ := b_P.fifteen
  clear b_P
  go_enter Tryd.func29, Tryd.ntmps29
  go_wp2_with fail
  refine (CV.out _ BB0.out).mono ?_
  rintro e w1 ⟨rfl, g1⟩
  clear x0 x1 x2 x3 x4 x5 x6 x7 x8 x9 x10 x11 x12 x13 x14 xf
  have XP1 := Lib.hid (XP0.out.below g1)
  have XR1 := Lib.hid (XR0.out.below g1)
  have BB1 := Lib.hid (BB0.out.trans (g1.mono BB0.out.size))
  clear XP0 XR0 BB0 g1
  have b_R := XR1.out
  obtain ⟨z0, z1, z2, z3, z4, z5, z6, z7, z8, z9, z10, z11, z12, z13, z14, zf⟩ := b_R.fifteen
  clear b_R
  have b_P := XP1.out
  obtain ⟨x0, x1, x2, x3, x4, x5, x6, x7, x8, x9, x10, x11, x12, x13, x14, xf⟩ := b_P.fifteen
  clear b_P
  go_wp2_with fail
  clear z0 z1 z2 z3 z4 z5 z6 z7 z8 z9 z10 z11 z12 z13 z14 zf
  clear x0 x1 x2 x3 x4 x5 x6 x7 x8 x9 x10 x11 x12 x13 x14 xf
  have BR := BoxF.all15 (v0 := .int .i64 d) (v1 := .int .i64 l) (v2 := .int .i64 f) (v3 := .int .i64 s) (v4 := .int .i64 o) (v5 := .int .i64 n) (v6 := .int .i64 x) (v7 := .int .i64 c) (v8 := .int .i64 k) (v9 := .int .i64 a) (v10 := .int .i64 t) (v11 := .int .i64 c') (v12 := .int .i64 k') (v13 := .int .i64 a') (v14 := .int .i64 t') (XR1.out)
  have BE := BB1.out.grown (grown15 w1 (w.heap.size + 1) (.int .i64 d) (.int .i64 l) (.int .i64 f) (.int .i64 s) (.int .i64 o) (.int .i64 n) (.int .i64 x) (.int .i64 c) (.int .i64 k) (.int .i64 a) (.int .i64 t) (.int .i64 c') (.int .i64 k') (.int .i64 a') (.int .i64 t')) BB1.out.size (fun q e => by cases e; omega)
  generalize (((((((((((((((w1.setCell ⟨w.heap.size + 1, 0, none⟩ (.int .i64 d)).setCell ⟨w.heap.size + 1, 1, none⟩ (.int .i64 l)).setCell ⟨w.heap.size + 1, 2, none⟩ (.int .i64 f)).setCell ⟨w.heap.size + 1, 3, none⟩ (.int .i64 s)).setCell ⟨w.heap.size + 1, 4, none⟩ (.int .i64 o)).setCell ⟨w.heap.size + 1, 5, none⟩ (.int .i64 n)).setCell ⟨w.heap.size + 1, 6, none⟩ (.int .i64 x)).setCell ⟨w.heap.size + 1, 7, none⟩ (.int .i64 c)).setCell ⟨w.heap.size + 1, 8, none⟩ (.int .i64 k)).setCell ⟨w.heap.size + 1, 9, none⟩ (.int .i64 a)).setCell ⟨w.heap.size + 1, 10, none⟩ (.int .i64 t)).setCell ⟨w.heap.size + 1, 11, none⟩ (.int .i64 c')).setCell ⟨w.heap.size + 1, 12, none⟩ (.int .i64 k')).setCell ⟨w.heap.size + 1, 13, none⟩ (.int .i64 a')).setCell ⟨w.heap.size + 1, 14, none⟩ (.int .i64 t')) = WE at *
  obtain ⟨z0, z1, z2, z3, z4, z5, z6, z7, z8, z9, z10, z11, z12, z13, z14, zf⟩ := BR.fifteen
  exact bodyPost_ret (v := .tuple #[.agg #[.int .i64 d, .int .i64 l, .int .i64 f, .int .i64 s, .int .i64 o, .int .i64 n, .int .i64 x, .int .i64 c, .int .i64 k, .int .i64 a, .int .i64 t, .int .i64 c', .int .i64 k', .int .i64 a', .int .i64 t'], .bool true]) (by simp [results, Tryd.results29, go_sem, z0, z1, z2, z3, z4, z5, z6, z7, z8, z9, z10, z11, z12, z13, z14]) rfl ⟨rfl, BE⟩
set_option maxRecDepth 100000 in
set_option maxHeartbeats 8000000 in
theorem layerCount_no (d l f s o n x c k a t c' k' a' t' : Int) (w : World) (h : aOkB d l f s o n x c k a t c' k' a' t' = false) (hA : AttsLie w) :
    Calls Tryd.prog 12 #[.agg #[.int .i64 d, .int .i64 l, .int .i64 f, .int .i64 s, .int .i64 o, .int .i64 n, .int .i64 x, .int .i64 c, .int .i64 k, .int .i64 a, .int .i64 t, .int .i64 c', .int .i64 k', .int .i64 a', .int .i64 t']] w fun e w' => e = .returned (.tuple #[.int .i64 0, .bool false]) ∧ Below w.heap.size w w' := by
  have CV := Lib.hid (fun W (hb : Below w.heap.size w W) => validArms_impl d l f s o n x c k a t c' k' a' t' W false h (hA.below hb))
  clear h hA
  have b_P := BoxF.new w [.int .i64 d, .int .i64 l, .int .i64 f, .int .i64 s, .int .i64 o, .int .i64 n, .int .i64 x, .int .i64 c, .int .i64 k, .int .i64 a, .int .i64 t, .int .i64 c', .int .i64 k', .int .i64 a', .int .i64 t'] 29
  have bb_ : Below w.heap.size w (w.alloc (.cells #[.int .i64 d, .int .i64 l, .int .i64 f, .int .i64 s, .int .i64 o, .int .i64 n, .int .i64 x, .int .i64 c, .int .i64 k, .int .i64 a, .int .i64 t, .int .i64 c', .int .i64 k', .int .i64 a', .int .i64 t'] 29 (0, 0))) := (Below.refl _ w).alloc (by first | exact Nat.le_refl _ | (simp; done) | (simp; omega)) (.cells #[.int .i64 d, .int .i64 l, .int .i64 f, .int .i64 s, .int .i64 o, .int .i64 n, .int .i64 x, .int .i64 c, .int .i64 k, .int .i64 a, .int .i64 t, .int .i64 c', .int .i64 k', .int .i64 a', .int .i64 t'] 29 (0, 0))
  have XP0 := Lib.hid b_P
  have BB0 := Lib.hid bb_
  clear bb_ b_P
  have b_P := XP0.out
  obtain ⟨x0, x1, x2, x3, x4, x5, x6, x7, x8, x9, x10, x11, x12, x13, x14, xf⟩ := b_P.fifteen
  clear b_P
  go_enter Tryd.func12, Tryd.ntmps12
  go_wp2_with fail
  refine (CV.out _ BB0.out).mono ?_
  rintro e w1 ⟨rfl, g1⟩
  clear x0 x1 x2 x3 x4 x5 x6 x7 x8 x9 x10 x11 x12 x13 x14 xf
  have XP1 := Lib.hid (XP0.out.below g1)
  have BB1 := Lib.hid (BB0.out.trans (g1.mono BB0.out.size))
  clear XP0 BB0 g1
  go_wp2_with fail
  go_ret2
  exact ⟨rfl, BB1.out⟩
theorem layN_further {o : Int} (h : 0 ≤ o) (z1 z2 : Bool) : (1 : Int) + ((furtherL (o == 0) z1 z2).length : Int) = layN o z1 z2 := by
  unfold layN furtherL
  by_cases h0 : o = 0
  · subst h0; cases z1 <;> cases z2 <;> rfl
  · have e : (o == 0) = false := by rw [beq_eq_false_iff_ne]; exact h0
    rw [e, if_pos (show 0 < o by omega)]
    cases z1 <;> cases z2 <;> rfl
theorem aOk_ord {d l f s o n x c k a t c' k' a' t' : Int} (h : aOkB d l f s o n x c k a t c' k' a' t' = true) : 0 ≤ o ∧ o ≤ 7 := by
  unfold aOkB at h
  simp only [Bool.and_eq_true] at h
  exact of_decide_eq_true h.2.1
set_option maxRecDepth 100000 in
set_option maxHeartbeats 8000000 in
theorem layerCount_impl (d l f s o n x c k a t c' k' a' t' : Int) (w : World) (h : aOkB d l f s o n x c k a t c' k' a' t' = true) (hA : AttsLie w) :
    Calls Tryd.prog 12 #[.agg #[.int .i64 d, .int .i64 l, .int .i64 f, .int .i64 s, .int .i64 o, .int .i64 n, .int .i64 x, .int .i64 c, .int .i64 k, .int .i64 a, .int .i64 t, .int .i64 c', .int .i64 k', .int .i64 a', .int .i64 t']] w fun e w' => e = .returned (.tuple #[.int .i64 (layN o (gNoB c k a t) (gNoB c' k' a' t')), .bool true]) ∧ Below w.heap.size w w' := by
  have hE := layN_further (aOk_ord h).1 (gNoB c k a t) (gNoB c' k' a' t')
  have hl := furtherL_len (o == 0) (gNoB c k a t) (gNoB c' k' a' t')
  have CV := Lib.hid (fun W (hb : Below w.heap.size w W) => validArms_impl d l f s o n x c k a t c' k' a' t' W true h (hA.below hb))
  have cf := fun (b : Nat) W hW => further_any d l f s o n x c k a t c' k' a' t' b W hW
  clear h hA
  generalize layN o (gNoB c k a t) (gNoB c' k' a' t') = y at *
  generalize furtherL (o == 0) (gNoB c k a t) (gNoB c' k' a' t') = L at *
  obtain ⟨q, hq⟩ : ∃ q, L.length = q := ⟨_, rfl⟩
  unfold Places at cf
  rw [hq] at hE hl cf
  have CF := Lib.hid cf
  have HE := Lib.hid hE
  clear hE cf
  have b_P := BoxF.new w [.int .i64 d, .int .i64 l, .int .i64 f, .int .i64 s, .int .i64 o, .int .i64 n, .int .i64 x, .int .i64 c, .int .i64 k, .int .i64 a, .int .i64 t, .int .i64 c', .int .i64 k', .int .i64 a', .int .i64 t'] 29
  have bb_ : Below w.heap.size w (w.alloc (.cells #[.int .i64 d, .int .i64 l, .int .i64 f, .int .i64 s, .int .i64 o, .int .i64 n, .int .i64 x, .int .i64 c, .int .i64 k, .int .i64 a, .int .i64 t, .int .i64 c', .int .i64 k', .int .i64 a', .int .i64 t'] 29 (0, 0))) := (Below.refl _ w).alloc (by first | exact Nat.le_refl _ | (simp; done) | (simp; omega)) (.cells #[.int .i64 d, .int .i64 l, .int .i64 f, .int .i64 s, .int .i64 o, .int .i64 n, .int .i64 x, .int .i64 c, .int .i64 k, .int .i64 a, .int .i64 t, .int .i64 c', .int .i64 k', .int .i64 a', .int .i64 t'] 29 (0, 0))
  have XP0 := Lib.hid b_P
  have BB0 := Lib.hid bb_
  clear bb_ b_P
  have b_P := XP0.out
  obtain ⟨x0, x1, x2, x3, x4, x5, x6, x7, x8, x9, x10, x11, x12, x13, x14, xf⟩ := b_P.fifteen
  clear b_P
  go_enter Tryd.func12, Tryd.ntmps12
  go_wp2_with fail
  refine (CV.out _ BB0.out).mono ?_
  rintro e w1 ⟨rfl, g1⟩
  clear x0 x1 x2 x3 x4 x5 x6 x7 x8 x9 x10 x11 x12 x13 x14 xf
  have XP1 := Lib.hid (XP0.out.below g1)
  have BB1 := Lib.hid (BB0.out.trans (g1.mono BB0.out.size))
  clear XP0 BB0 g1
  have b_P := XP1.out
  obtain ⟨x0, x1, x2, x3, x4, x5, x6, x7, x8, x9, x10, x11, x12, x13, x14, xf⟩ := b_P.fifteen
  clear b_P
  go_wp2_with fail
  have X0 := BoxF.new w1 [.int .i64 d, .int .i64 l, .int .i64 f, .int .i64 s, .int .i64 o, .int .i64 n, .int .i64 x, .int .i64 c, .int .i64 k, .int .i64 a, .int .i64 t, .int .i64 c', .int .i64 k', .int .i64 a', .int .i64 t'] 60
  have B1 := BB1.out.alloc BB1.out.size (.cells #[.int .i64 d, .int .i64 l, .int .i64 f, .int .i64 s, .int .i64 o, .int .i64 n, .int .i64 x, .int .i64 c, .int .i64 k, .int .i64 a, .int .i64 t, .int .i64 c', .int .i64 k', .int .i64 a', .int .i64 t'] 60 (0, 0))
  have HX := Lib.hid X0
  have HB := Lib.hid B1
  clear X0 B1
  clear x0 x1 x2 x3 x4 x5 x6 x7 x8 x9 x10 x11 x12 x13 x14 xf
  refine (CF.out _ _ HX.out).mono ?_
  rintro e w2 ⟨ao, cap, rfl, ho, hnil, g2⟩
  have BB2 := Lib.hid (HB.out.trans (g2.mono HB.out.size))
  have ew : IntKind.i64.wrap (1 + (q : Int)) = 1 + (q : Int) := IntWalk.i64_in _ (by omega)
  clear g2 HB HX ho hnil
  obtain rfl := HE.out
  clear HE
  go_wp2_with fail
  go_ret2
  exact ⟨rfl, BB2.out⟩
set_option maxRecDepth 100000 in
set_option maxHeartbeats 8000000 in
theorem chargeTotal_no (d l f s o n x c k a t c' k' a' t' : Int) (w : World) (h : aOkB d l f s o n x c k a t c' k' a' t' = false) (hA : AttsLie w) :
    Calls Tryd.prog 58 #[.agg #[.int .i64 d, .int .i64 l, .int .i64 f, .int .i64 s, .int .i64 o, .int .i64 n, .int .i64 x, .int .i64 c, .int .i64 k, .int .i64 a, .int .i64 t, .int .i64 c', .int .i64 k', .int .i64 a', .int .i64 t']] w fun e w' => e = .returned (.tuple #[.int .i64 0, .bool false]) ∧ Below w.heap.size w w' := by
  have CV := Lib.hid (fun W (hb : Below w.heap.size w W) => validArms_impl d l f s o n x c k a t c' k' a' t' W false h (hA.below hb))
  clear h hA
  have b_P := BoxF.new w [.int .i64 d, .int .i64 l, .int .i64 f, .int .i64 s, .int .i64 o, .int .i64 n, .int .i64 x, .int .i64 c, .int .i64 k, .int .i64 a, .int .i64 t, .int .i64 c', .int .i64 k', .int .i64 a', .int .i64 t'] 29
  have bb_ : Below w.heap.size w (w.alloc (.cells #[.int .i64 d, .int .i64 l, .int .i64 f, .int .i64 s, .int .i64 o, .int .i64 n, .int .i64 x, .int .i64 c, .int .i64 k, .int .i64 a, .int .i64 t, .int .i64 c', .int .i64 k', .int .i64 a', .int .i64 t'] 29 (0, 0))) := (Below.refl _ w).alloc (by first | exact Nat.le_refl _ | (simp; done) | (simp; omega)) (.cells #[.int .i64 d, .int .i64 l, .int .i64 f, .int .i64 s, .int .i64 o, .int .i64 n, .int .i64 x, .int .i64 c, .int .i64 k, .int .i64 a, .int .i64 t, .int .i64 c', .int .i64 k', .int .i64 a', .int .i64 t'] 29 (0, 0))
  have XP0 := Lib.hid b_P
  have BB0 := Lib.hid bb_
  clear bb_ b_P
  have b_P := XP0.out
  obtain ⟨x0, x1, x2, x3, x4, x5, x6, x7, x8, x9, x10, x11, x12, x13, x14, xf⟩ := b_P.fifteen
  clear b_P
  go_enter Tryd.func58, Tryd.ntmps58
  go_wp2_with fail
  refine (CV.out _ BB0.out).mono ?_
  rintro e w1 ⟨rfl, g1⟩
  clear x0 x1 x2 x3 x4 x5 x6 x7 x8 x9 x10 x11 x12 x13 x14 xf
  have XP1 := Lib.hid (XP0.out.below g1)
  have BB1 := Lib.hid (BB0.out.trans (g1.mono BB0.out.size))
  clear XP0 BB0 g1
  go_wp2_with fail
  go_ret2
  exact ⟨rfl, BB1.out⟩
set_option maxRecDepth 100000 in
set_option maxHeartbeats 8000000 in
theorem chargeTotal_impl (d l f s o n x c k a t c' k' a' t' : Int) (w : World) (h : aOkB d l f s o n x c k a t c' k' a' t' = true) (hA : AttsLie w) :
    Calls Tryd.prog 58 #[.agg #[.int .i64 d, .int .i64 l, .int .i64 f, .int .i64 s, .int .i64 o, .int .i64 n, .int .i64 x, .int .i64 c, .int .i64 k, .int .i64 a, .int .i64 t, .int .i64 c', .int .i64 k', .int .i64 a', .int .i64 t']] w fun e w' => e = .returned (.tuple #[.int .i64 (c + c'), .bool true]) ∧ Below w.heap.size w w' := by
  have hc := aOk_counts h
  have ew : IntKind.i64.wrap (c + c') = c + c' := IntWalk.i64_in _ (by omega)
  have CV := Lib.hid (fun W (hb : Below w.heap.size w W) => validArms_impl d l f s o n x c k a t c' k' a' t' W true h (hA.below hb))
  clear h hA hc
  have b_P := BoxF.new w [.int .i64 d, .int .i64 l, .int .i64 f, .int .i64 s, .int .i64 o, .int .i64 n, .int .i64 x, .int .i64 c, .int .i64 k, .int .i64 a, .int .i64 t, .int .i64 c', .int .i64 k', .int .i64 a', .int .i64 t'] 29
  have bb_ : Below w.heap.size w (w.alloc (.cells #[.int .i64 d, .int .i64 l, .int .i64 f, .int .i64 s, .int .i64 o, .int .i64 n, .int .i64 x, .int .i64 c, .int .i64 k, .int .i64 a, .int .i64 t, .int .i64 c', .int .i64 k', .int .i64 a', .int .i64 t'] 29 (0, 0))) := (Below.refl _ w).alloc (by first | exact Nat.le_refl _ | (simp; done) | (simp; omega)) (.cells #[.int .i64 d, .int .i64 l, .int .i64 f, .int .i64 s, .int .i64 o, .int .i64 n, .int .i64 x, .int .i64 c, .int .i64 k, .int .i64 a, .int .i64 t, .int .i64 c', .int .i64 k', .int .i64 a', .int .i64 t'] 29 (0, 0))
  have XP0 := Lib.hid b_P
  have BB0 := Lib.hid bb_
  clear bb_ b_P
  have b_P := XP0.out
  obtain ⟨x0, x1, x2, x3, x4, x5, x6, x7, x8, x9, x10, x11, x12, x13, x14, xf⟩ := b_P.fifteen
  clear b_P
  go_enter Tryd.func58, Tryd.ntmps58
  go_wp2_with fail
  refine (CV.out _ BB0.out).mono ?_
  rintro e w1 ⟨rfl, g1⟩
  clear x0 x1 x2 x3 x4 x5 x6 x7 x8 x9 x10 x11 x12 x13 x14 xf
  have XP1 := Lib.hid (XP0.out.below g1)
  have BB1 := Lib.hid (BB0.out.trans (g1.mono BB0.out.size))
  clear XP0 BB0 g1
  have b_P := XP1.out
  obtain ⟨x0, x1, x2, x3, x4, x5, x6, x7, x8, x9, x10, x11, x12, x13, x14, xf⟩ := b_P.fifteen
  clear b_P
  go_wp2_with fail
  go_ret2
  exact ⟨rfl, BB1.out⟩
end Go.Proofs.YtpcghkciibbmgaaDoor
