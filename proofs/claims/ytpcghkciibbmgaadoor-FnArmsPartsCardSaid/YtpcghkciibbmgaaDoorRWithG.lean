/- Contract: the program's WithGroups. -/
import Derived.Test.YtpcghkciibbmgaaDoorRArmsV
namespace Go.Proofs.YtpcghkciibbmgaaDoor
open Go.RowKit

theorem BoxF.drew {w : World} {b : Nat} {L : List Value} {t : TypeId} (h : BoxF w b L t) : BoxF w.drew b L t := h
set_option maxRecDepth 100000 in
set_option maxHeartbeats 8000000 in
theorem withGroups_1 (d l f s o n x c k a t c' k' a' t' b0 b1 b2 b3 e0 e1 e2 e3 : Int) (w : World) (h1 : aOkB d l f s o n x c k a t c' k' a' t' = false) (hA : AttsLie w) :
    Calls Tryd.prog 20 #[.agg #[.int .i64 d, .int .i64 l, .int .i64 f, .int .i64 s, .int .i64 o, .int .i64 n, .int .i64 x, .int .i64 c, .int .i64 k, .int .i64 a, .int .i64 t, .int .i64 c', .int .i64 k', .int .i64 a', .int .i64 t'], .agg #[.int .i64 b0, .int .i64 b1, .int .i64 b2, .int .i64 b3], .agg #[.int .i64 e0, .int .i64 e1, .int .i64 e2, .int .i64 e3]] w (AnsA w 0 0 0 0 0 0 0 0 0 0 0 0 0 0 0 false) := by
  have CV := Lib.hid (fun W (hb : Below w.heap.size w W) => validArms_impl d l f s o n x c k a t c' k' a' t' W false h1 (hA.below hb))
  clear h1 hA
  have b_P := (((BoxF.new w [.int .i64 d, .int .i64 l, .int .i64 f, .int .i64 s, .int .i64 o, .int .i64 n, .int .i64 x, .int .i64 c, .int .i64 k, .int .i64 a, .int .i64 t, .int .i64 c', .int .i64 k', .int .i64 a', .int .i64 t'] 29).alloc (.cells #[.int .i64 b0, .int .i64 b1, .int .i64 b2, .int .i64 b3] 27 (0, 0))).alloc (.cells #[.int .i64 e0, .int .i64 e1, .int .i64 e2, .int .i64 e3] 27 (0, 0))).alloc (.cells #[.int .i64 0, .int .i64 0, .int .i64 0, .int .i64 0, .int .i64 0, .int .i64 0, .int .i64 0, .int .i64 0, .int .i64 0, .int .i64 0, .int .i64 0, .int .i64 0, .int .i64 0, .int .i64 0, .int .i64 0] 29 (0, 0))
  have b_B := ((BoxF.new (w.alloc (.cells #[.int .i64 d, .int .i64 l, .int .i64 f, .int .i64 s, .int .i64 o, .int .i64 n, .int .i64 x, .int .i64 c, .int .i64 k, .int .i64 a, .int .i64 t, .int .i64 c', .int .i64 k', .int .i64 a', .int .i64 t'] 29 (0, 0))) [.int .i64 b0, .int .i64 b1, .int .i64 b2, .int .i64 b3] 27).alloc (.cells #[.int .i64 e0, .int .i64 e1, .int .i64 e2, .int .i64 e3] 27 (0, 0))).alloc (.cells #[.int .i64 0, .int .i64 0, .int .i64 0, .int .i64 0, .int .i64 0, .int .i64 0, .int .i64 0, .int .i64 0, .int .i64 0, .int .i64 0, .int .i64 0, .int .i64 0, .int .i64 0, .int .i64 0, .int .i64 0] 29 (0, 0))
  have b_E := (BoxF.new ((w.alloc (.cells #[.int .i64 d, .int .i64 l, .int .i64 f, .int .i64 s, .int .i64 o, .int .i64 n, .int .i64 x, .int .i64 c, .int .i64 k, .int .i64 a, .int .i64 t, .int .i64 c', .int .i64 k', .int .i64 a', .int .i64 t'] 29 (0, 0))).alloc (.cells #[.int .i64 b0, .int .i64 b1, .int .i64 b2, .int .i64 b3] 27 (0, 0))) [.int .i64 e0, .int .i64 e1, .int .i64 e2, .int .i64 e3] 27).alloc (.cells #[.int .i64 0, .int .i64 0, .int .i64 0, .int .i64 0, .int .i64 0, .int .i64 0, .int .i64 0, .int .i64 0, .int .i64 0, .int .i64 0, .int .i64 0, .int .i64 0, .int .i64 0, .int .i64 0, .int .i64 0] 29 (0, 0))
  have b_R := BoxF.new (((w.alloc (.cells #[.int .i64 d, .int .i64 l, .int .i64 f, .int .i64 s, .int .i64 o, .int .i64 n, .int .i64 x, .int .i64 c, .int .i64 k, .int .i64 a, .int .i64 t, .int .i64 c', .int .i64 k', .int .i64 a', .int .i64 t'] 29 (0, 0))).alloc (.cells #[.int .i64 b0, .int .i64 b1, .int .i64 b2, .int .i64 b3] 27 (0, 0))).alloc (.cells #[.int .i64 e0, .int .i64 e1, .int .i64 e2, .int .i64 e3] 27 (0, 0))) [.int .i64 0, .int .i64 0, .int .i64 0, .int .i64 0, .int .i64 0, .int .i64 0, .int .i64 0, .int .i64 0, .int .i64 0, .int .i64 0, .int .i64 0, .int .i64 0, .int .i64 0, .int .i64 0, .int .i64 0] 29
  simp only [World.size_alloc] at b_B b_E b_R
  have bb_ : Below w.heap.size w ((((w.alloc (.cells #[.int .i64 d, .int .i64 l, .int .i64 f, .int .i64 s, .int .i64 o, .int .i64 n, .int .i64 x, .int .i64 c, .int .i64 k, .int .i64 a, .int .i64 t, .int .i64 c', .int .i64 k', .int .i64 a', .int .i64 t'] 29 (0, 0))).alloc (.cells #[.int .i64 b0, .int .i64 b1, .int .i64 b2, .int .i64 b3] 27 (0, 0))).alloc (.cells #[.int .i64 e0, .int .i64 e1, .int .i64 e2, .int .i64 e3] 27 (0, 0))).alloc (.cells #[.int .i64 0, .int .i64 0, .int .i64 0, .int .i64 0, .int .i64 0, .int .i64 0, .int .i64 0, .int .i64 0, .int .i64 0, .int .i64 0, .int .i64 0, .int .i64 0, .int .i64 0, .int .i64 0, .int .i64 0] 29 (0, 0))) := ((((Below.refl _ w).alloc (by first | exact Nat.le_refl _ | (simp; done) | (simp; omega)) (.cells #[.int .i64 d, .int .i64 l, .int .i64 f, .int .i64 s, .int .i64 o, .int .i64 n, .int .i64 x, .int .i64 c, .int .i64 k, .int .i64 a, .int .i64 t, .int .i64 c', .int .i64 k', .int .i64 a', .int .i64 t'] 29 (0, 0))).alloc (by first | exact Nat.le_refl _ | (simp; done) | (simp; omega)) (.cells #[.int .i64 b0, .int .i64 b1, .int .i64 b2, .int .i64 b3] 27 (0, 0))).alloc (by first | exact Nat.le_refl _ | (simp; done) | (simp; omega)) (.cells #[.int .i64 e0, .int .i64 e1, .int .i64 e2, .int .i64 e3] 27 (0, 0))).alloc (by first | exact Nat.le_refl _ | (simp; done) | (simp; omega)) (.cells #[.int .i64 0, .int .i64 0, .int .i64 0, .int .i64 0, .int .i64 0, .int .i64 0, .int .i64 0, .int .i64 0, .int .i64 0, .int .i64 0, .int .i64 0, .int .i64 0, .int .i64 0, .int .i64 0, .int .i64 0] 29 (0, 0))
  have XP0 := Lib.hid b_P
  have XB0 := Lib.hid b_B
  have XE0 := Lib.hid b_E
  have XR0 := Lib.hid b_R
  have BB0 := Lib.hid bb_
  clear bb_ b_P b_B b_E b_R
  have b_P := XP0.out
  obtain ⟨x0, x1, x2, x3, x4, x5, x6, x7, x8, x9, x10, x11, x12, x13, x14, xf⟩ := b_P.fifteen
  clear b_P
  go_enter Tryd.func20, Tryd.ntmps20
  go_wp2_with fail
  refine (CV.out _ BB0.out).mono ?_
  rintro e w1 ⟨rfl, g1⟩
  clear x0 x1 x2 x3 x4 x5 x6 x7 x8 x9 x10 x11 x12 x13 x14 xf
  have XP1 := Lib.hid (XP0.out.below g1)
  have XB1 := Lib.hid (XB0.out.below g1)
  have XE1 := Lib.hid (XE0.out.below g1)
  have XR1 := Lib.hid (XR0.out.below g1)
  have BB1 := Lib.hid (BB0.out.trans (g1.mono BB0.out.size))
  clear XP0 XB0 XE0 XR0 BB0 g1
  have b_R := XR1.out
  obtain ⟨z0, z1, z2, z3, z4, z5, z6, z7, z8, z9, z10, z11, z12, z13, z14, zf⟩ := b_R.fifteen
  clear b_R
  go_wp2_with fail
  clear z0 z1 z2 z3 z4 z5 z6 z7 z8 z9 z10 z11 z12 z13 z14 zf
  have BR := BoxF.all15 (v0 := .int .i64 0) (v1 := .int .i64 0) (v2 := .int .i64 0) (v3 := .int .i64 0) (v4 := .int .i64 0) (v5 := .int .i64 0) (v6 := .int .i64 0) (v7 := .int .i64 0) (v8 := .int .i64 0) (v9 := .int .i64 0) (v10 := .int .i64 0) (v11 := .int .i64 0) (v12 := .int .i64 0) (v13 := .int .i64 0) (v14 := .int .i64 0) (XR1.out)
  have BE := BB1.out.grown (grown15 w1 (w.heap.size + 1 + 1 + 1) (.int .i64 0) (.int .i64 0) (.int .i64 0) (.int .i64 0) (.int .i64 0) (.int .i64 0) (.int .i64 0) (.int .i64 0) (.int .i64 0) (.int .i64 0) (.int .i64 0) (.int .i64 0) (.int .i64 0) (.int .i64 0) (.int .i64 0)) BB1.out.size (fun q e => by cases e; omega)
  generalize (((((((((((((((w1.setCell ⟨w.heap.size + 1 + 1 + 1, 0, none⟩ (.int .i64 0)).setCell ⟨w.heap.size + 1 + 1 + 1, 1, none⟩ (.int .i64 0)).setCell ⟨w.heap.size + 1 + 1 + 1, 2, none⟩ (.int .i64 0)).setCell ⟨w.heap.size + 1 + 1 + 1, 3, none⟩ (.int .i64 0)).setCell ⟨w.heap.size + 1 + 1 + 1, 4, none⟩ (.int .i64 0)).setCell ⟨w.heap.size + 1 + 1 + 1, 5, none⟩ (.int .i64 0)).setCell ⟨w.heap.size + 1 + 1 + 1, 6, none⟩ (.int .i64 0)).setCell ⟨w.heap.size + 1 + 1 + 1, 7, none⟩ (.int .i64 0)).setCell ⟨w.heap.size + 1 + 1 + 1, 8, none⟩ (.int .i64 0)).setCell ⟨w.heap.size + 1 + 1 + 1, 9, none⟩ (.int .i64 0)).setCell ⟨w.heap.size + 1 + 1 + 1, 10, none⟩ (.int .i64 0)).setCell ⟨w.heap.size + 1 + 1 + 1, 11, none⟩ (.int .i64 0)).setCell ⟨w.heap.size + 1 + 1 + 1, 12, none⟩ (.int .i64 0)).setCell ⟨w.heap.size + 1 + 1 + 1, 13, none⟩ (.int .i64 0)).setCell ⟨w.heap.size + 1 + 1 + 1, 14, none⟩ (.int .i64 0)) = WE at *
  obtain ⟨z0, z1, z2, z3, z4, z5, z6, z7, z8, z9, z10, z11, z12, z13, z14, zf⟩ := BR.fifteen
  exact bodyPost_ret (v := .tuple #[.agg #[.int .i64 0, .int .i64 0, .int .i64 0, .int .i64 0, .int .i64 0, .int .i64 0, .int .i64 0, .int .i64 0, .int .i64 0, .int .i64 0, .int .i64 0, .int .i64 0, .int .i64 0, .int .i64 0, .int .i64 0], .bool false]) (by simp [results, Tryd.results20, go_sem, z0, z1, z2, z3, z4, z5, z6, z7, z8, z9, z10, z11, z12, z13, z14]) rfl ⟨rfl, BE⟩
set_option maxRecDepth 100000 in
set_option maxHeartbeats 8000000 in
theorem withGroups_2 (d l f s o n x c k a t c' k' a' t' b0 b1 b2 b3 e0 e1 e2 e3 : Int) (w : World) (h1 : aOkB d l f s o n x c k a t c' k' a' t' = true) (h2 : aOkB d l f s o n x b0 b1 b2 b3 e0 e1 e2 e3 = false) (hA : AttsLie w) :
    Calls Tryd.prog 20 #[.agg #[.int .i64 d, .int .i64 l, .int .i64 f, .int .i64 s, .int .i64 o, .int .i64 n, .int .i64 x, .int .i64 c, .int .i64 k, .int .i64 a, .int .i64 t, .int .i64 c', .int .i64 k', .int .i64 a', .int .i64 t'], .agg #[.int .i64 b0, .int .i64 b1, .int .i64 b2, .int .i64 b3], .agg #[.int .i64 e0, .int .i64 e1, .int .i64 e2, .int .i64 e3]] w (AnsA w 0 0 0 0 0 0 0 0 0 0 0 0 0 0 0 false) := by
  have CV := Lib.hid (fun W (hb : Below w.heap.size w W) => validArms_impl d l f s o n x c k a t c' k' a' t' W true h1 (hA.below hb))
  have CI := Lib.hid (fun W (hb : Below w.heap.size w W) => armsIf_false d l f s o n x b0 b1 b2 b3 e0 e1 e2 e3 W h2 (hA.below hb))
  clear h1 h2 hA
  have b_P := (((BoxF.new w [.int .i64 d, .int .i64 l, .int .i64 f, .int .i64 s, .int .i64 o, .int .i64 n, .int .i64 x, .int .i64 c, .int .i64 k, .int .i64 a, .int .i64 t, .int .i64 c', .int .i64 k', .int .i64 a', .int .i64 t'] 29).alloc (.cells #[.int .i64 b0, .int .i64 b1, .int .i64 b2, .int .i64 b3] 27 (0, 0))).alloc (.cells #[.int .i64 e0, .int .i64 e1, .int .i64 e2, .int .i64 e3] 27 (0, 0))).alloc (.cells #[.int .i64 0, .int .i64 0, .int .i64 0, .int .i64 0, .int .i64 0, .int .i64 0, .int .i64 0, .int .i64 0, .int .i64 0, .int .i64 0, .int .i64 0, .int .i64 0, .int .i64 0, .int .i64 0, .int .i64 0] 29 (0, 0))
  have b_B := ((BoxF.new (w.alloc (.cells #[.int .i64 d, .int .i64 l, .int .i64 f, .int .i64 s, .int .i64 o, .int .i64 n, .int .i64 x, .int .i64 c, .int .i64 k, .int .i64 a, .int .i64 t, .int .i64 c', .int .i64 k', .int .i64 a', .int .i64 t'] 29 (0, 0))) [.int .i64 b0, .int .i64 b1, .int .i64 b2, .int .i64 b3] 27).alloc (.cells #[.int .i64 e0, .int .i64 e1, .int .i64 e2, .int .i64 e3] 27 (0, 0))).alloc (.cells #[.int .i64 0, .int .i64 0, .int .i64 0, .int .i64 0, .int .i64 0, .int .i64 0, .int .i64 0, .int .i64 0, .int .i64 0, .int .i64 0, .int .i64 0, .int .i64 0, .int .i64 0, .int .i64 0, .int .i64 0] 29 (0, 0))
  have b_E := (BoxF.new ((w.alloc (.cells #[.int .i64 d, .int .i64 l, .int .i64 f, .int .i64 s, .int .i64 o, .int .i64 n, .int .i64 x, .int .i64 c, .int .i64 k, .int .i64 a, .int .i64 t, .int .i64 c', .int .i64 k', .int .i64 a', .int .i64 t'] 29 (0, 0))).alloc (.cells #[.int .i64 b0, .int .i64 b1, .int .i64 b2, .int .i64 b3] 27 (0, 0))) [.int .i64 e0, .int .i64 e1, .int .i64 e2, .int .i64 e3] 27).alloc (.cells #[.int .i64 0, .int .i64 0, .int .i64 0, .int .i64 0, .int .i64 0, .int .i64 0, .int .i64 0, .int .i64 0, .int .i64 0, .int .i64 0, .int .i64 0, .int .i64 0, .int .i64 0, .int .i64 0, .int .i64 0] 29 (0, 0))
  have b_R := BoxF.new (((w.alloc (.cells #[.int .i64 d, .int .i64 l, .int .i64 f, .int .i64 s, .int .i64 o, .int .i64 n, .int .i64 x, .int .i64 c, .int .i64 k, .int .i64 a, .int .i64 t, .int .i64 c', .int .i64 k', .int .i64 a', .int .i64 t'] 29 (0, 0))).alloc (.cells #[.int .i64 b0, .int .i64 b1, .int .i64 b2, .int .i64 b3] 27 (0, 0))).alloc (.cells #[.int .i64 e0, .int .i64 e1, .int .i64 e2, .int .i64 e3] 27 (0, 0))) [.int .i64 0, .int .i64 0, .int .i64 0, .int .i64 0, .int .i64 0, .int .i64 0, .int .i64 0, .int .i64 0, .int .i64 0, .int .i64 0, .int .i64 0, .int .i64 0, .int .i64 0, .int .i64 0, .int .i64 0] 29
  simp only [World.size_alloc] at b_B b_E b_R
  have bb_ : Below w.heap.size w ((((w.alloc (.cells #[.int .i64 d, .int .i64 l, .int .i64 f, .int .i64 s, .int .i64 o, .int .i64 n, .int .i64 x, .int .i64 c, .int .i64 k, .int .i64 a, .int .i64 t, .int .i64 c', .int .i64 k', .int .i64 a', .int .i64 t'] 29 (0, 0))).alloc (.cells #[.int .i64 b0, .int .i64 b1, .int .i64 b2, .int .i64 b3] 27 (0, 0))).alloc (.cells #[.int .i64 e0, .int .i64 e1, .int .i64 e2, .int .i64 e3] 27 (0, 0))).alloc (.cells #[.int .i64 0, .int .i64 0, .int .i64 0, .int .i64 0, .int .i64 0, .int .i64 0, .int .i64 0, .int .i64 0, .int .i64 0, .int .i64 0, .int .i64 0, .int .i64 0, .int .i64 0, .int .i64 0, .int .i64 0] 29 (0, 0))) := ((((Below.refl _ w).alloc (by first | exact Nat.le_refl _ | (simp; done) | (simp; omega)) (.cells #[.int .i64 d, .int .i64 l, .int .i64 f, .int .i64 s, .int .i64 o, .int .i64 n, .int .i64 x, .int .i64 c, .int .i64 k, .int .i64 a, .int .i64 t, .int .i64 c', .int .i64 k', .int .i64 a', .int .i64 t'] 29 (0, 0))).alloc (by first | exact Nat.le_refl _ | (simp; done) | (simp; omega)) (.cells #[.int .i64 b0, .int .i64 b1, .int .i64 b2, .int .i64 b3] 27 (0, 0))).alloc (by first | exact Nat.le_refl _ | (simp; done) | (simp; omega)) (.cells #[.int .i64 e0, .int .i64 e1, .int .i64 e2, .int .i64 e3] 27 (0, 0))).alloc (by first | exact Nat.le_refl _ | (simp; done) | (simp; omega)) (.cells #[.int .i64 0, .int .i64 0, .int .i64 0, .int .i64 0, .int .i64 0, .int .i64 0, .int .i64 0, .int .i64 0, .int .i64 0, .int .i64 0, .int .i64 0, .int .i64 0, .int .i64 0, .int .i64 0, .int .i64 0] 29 (0, 0))
  have XP0 := Lib.hid b_P
  have XB0 := Lib.hid b_B
  have XE0 := Lib.hid b_E
  have XR0 := Lib.hid b_R
  have BB0 := Lib.hid bb_
  clear bb_ b_P b_B b_E b_R
  have b_P := XP0.out
  obtain ⟨x0, x1, x2, x3, x4, x5, x6, x7, x8, x9, x10, x11, x12, x13, x14, xf⟩ := b_P.fifteen
  clear b_P
  go_enter Tryd.func20, Tryd.ntmps20
  go_wp2_with fail
  refine (CV.out _ BB0.out).mono ?_
  rintro e w1 ⟨rfl, g1⟩
  clear x0 x1 x2 x3 x4 x5 x6 x7 x8 x9 x10 x11 x12 x13 x14 xf
  have XP1 := Lib.hid (XP0.out.below g1)
  have XB1 := Lib.hid (XB0.out.below g1)
  have XE1 := Lib.hid (XE0.out.below g1)
  have XR1 := Lib.hid (XR0.out.below g1)
  have BB1 := Lib.hid (BB0.out.trans (g1.mono BB0.out.size))
  clear XP0 XB0 XE0 XR0 BB0 g1
  have b_P := XP1.out
  obtain ⟨x0, x1, x2, x3, x4, x5, x6, x7, x8, x9, x10, x11, x12, x13, x14, xf⟩ := b_P.fifteen
  clear b_P
  have b_B := XB1.out
  obtain ⟨y0, y1, y2, y3, yf⟩ := b_B.four
  clear b_B
  have b_E := XE1.out
  obtain ⟨u0, u1, u2, u3, uf⟩ := b_E.four
  clear b_E
  go_wp2_with fail
  go_region
  · clear x0 x1 x2 x3 x4 x5 x6 x7 x8 x9 x10 x11 x12 x13 x14 xf
    clear y0 y1 y2 y3 yf
    clear u0 u1 u2 u3 uf
    have q1 : BoxF ((((w1.setCell ⟨w.heap.size, 7, none⟩ (.int .i64 b0)).setCell ⟨w.heap.size, 8, none⟩ (.int .i64 b1)).setCell ⟨w.heap.size, 9, none⟩ (.int .i64 b2)).setCell ⟨w.heap.size, 10, none⟩ (.int .i64 b3)) (w.heap.size) [.int .i64 d, .int .i64 l, .int .i64 f, .int .i64 s, .int .i64 o, .int .i64 n, .int .i64 x, .int .i64 b0, .int .i64 b1, .int .i64 b2, .int .i64 b3, .int .i64 c', .int .i64 k', .int .i64 a', .int .i64 t'] 29 := sets_box [.int .i64 b0, .int .i64 b1, .int .i64 b2, .int .i64 b3] 7 XP1.out
    have q2 : BoxF ((((((((w1.setCell ⟨w.heap.size, 7, none⟩ (.int .i64 b0)).setCell ⟨w.heap.size, 8, none⟩ (.int .i64 b1)).setCell ⟨w.heap.size, 9, none⟩ (.int .i64 b2)).setCell ⟨w.heap.size, 10, none⟩ (.int .i64 b3)).setCell ⟨w.heap.size, 11, none⟩ (.int .i64 e0)).setCell ⟨w.heap.size, 12, none⟩ (.int .i64 e1)).setCell ⟨w.heap.size, 13, none⟩ (.int .i64 e2)).setCell ⟨w.heap.size, 14, none⟩ (.int .i64 e3)) (w.heap.size) [.int .i64 d, .int .i64 l, .int .i64 f, .int .i64 s, .int .i64 o, .int .i64 n, .int .i64 x, .int .i64 b0, .int .i64 b1, .int .i64 b2, .int .i64 b3, .int .i64 e0, .int .i64 e1, .int .i64 e2, .int .i64 e3] 29 := sets_box [.int .i64 e0, .int .i64 e1, .int .i64 e2, .int .i64 e3] 11 q1
    have XP2 := Lib.hid (BoxF.drew q2)
    clear q1 q2
    have q1 : BoxF ((((w1.setCell ⟨w.heap.size, 7, none⟩ (.int .i64 b0)).setCell ⟨w.heap.size, 8, none⟩ (.int .i64 b1)).setCell ⟨w.heap.size, 9, none⟩ (.int .i64 b2)).setCell ⟨w.heap.size, 10, none⟩ (.int .i64 b3)) (w.heap.size + 1 + 1 + 1) [.int .i64 0, .int .i64 0, .int .i64 0, .int .i64 0, .int .i64 0, .int .i64 0, .int .i64 0, .int .i64 0, .int .i64 0, .int .i64 0, .int .i64 0, .int .i64 0, .int .i64 0, .int .i64 0, .int .i64 0] 29 := sets_far (by omega) [.int .i64 b0, .int .i64 b1, .int .i64 b2, .int .i64 b3] 7 XR1.out
    have q2 : BoxF ((((((((w1.setCell ⟨w.heap.size, 7, none⟩ (.int .i64 b0)).setCell ⟨w.heap.size, 8, none⟩ (.int .i64 b1)).setCell ⟨w.heap.size, 9, none⟩ (.int .i64 b2)).setCell ⟨w.heap.size, 10, none⟩ (.int .i64 b3)).setCell ⟨w.heap.size, 11, none⟩ (.int .i64 e0)).setCell ⟨w.heap.size, 12, none⟩ (.int .i64 e1)).setCell ⟨w.heap.size, 13, none⟩ (.int .i64 e2)).setCell ⟨w.heap.size, 14, none⟩ (.int .i64 e3)) (w.heap.size + 1 + 1 + 1) [.int .i64 0, .int .i64 0, .int .i64 0, .int .i64 0, .int .i64 0, .int .i64 0, .int .i64 0, .int .i64 0, .int .i64 0, .int .i64 0, .int .i64 0, .int .i64 0, .int .i64 0, .int .i64 0, .int .i64 0] 29 := sets_far (by omega) [.int .i64 e0, .int .i64 e1, .int .i64 e2, .int .i64 e3] 11 q1
    have XR2 := Lib.hid (BoxF.drew q2)
    clear q1 q2
    have q1 : Below w.heap.size w ((((w1.setCell ⟨w.heap.size, 7, none⟩ (.int .i64 b0)).setCell ⟨w.heap.size, 8, none⟩ (.int .i64 b1)).setCell ⟨w.heap.size, 9, none⟩ (.int .i64 b2)).setCell ⟨w.heap.size, 10, none⟩ (.int .i64 b3)) := sets_below (by omega) [.int .i64 b0, .int .i64 b1, .int .i64 b2, .int .i64 b3] 7 BB1.out
    have q2 : Below w.heap.size w ((((((((w1.setCell ⟨w.heap.size, 7, none⟩ (.int .i64 b0)).setCell ⟨w.heap.size, 8, none⟩ (.int .i64 b1)).setCell ⟨w.heap.size, 9, none⟩ (.int .i64 b2)).setCell ⟨w.heap.size, 10, none⟩ (.int .i64 b3)).setCell ⟨w.heap.size, 11, none⟩ (.int .i64 e0)).setCell ⟨w.heap.size, 12, none⟩ (.int .i64 e1)).setCell ⟨w.heap.size, 13, none⟩ (.int .i64 e2)).setCell ⟨w.heap.size, 14, none⟩ (.int .i64 e3)) := sets_below (by omega) [.int .i64 e0, .int .i64 e1, .int .i64 e2, .int .i64 e3] 11 q1
    have BB2 := Lib.hid q2.drew
    clear q1 q2
    clear XP1 XB1 XE1 XR1 BB1
    generalize (((((((((w1.setCell ⟨w.heap.size, 7, none⟩ (.int .i64 b0)).setCell ⟨w.heap.size, 8, none⟩ (.int .i64 b1)).setCell ⟨w.heap.size, 9, none⟩ (.int .i64 b2)).setCell ⟨w.heap.size, 10, none⟩ (.int .i64 b3)).setCell ⟨w.heap.size, 11, none⟩ (.int .i64 e0)).setCell ⟨w.heap.size, 12, none⟩ (.int .i64 e1)).setCell ⟨w.heap.size, 13, none⟩ (.int .i64 e2)).setCell ⟨w.heap.size, 14, none⟩ (.int .i64 e3))).drew = W2 at *
    have b_P := XP2.out
    obtain ⟨x0, x1, x2, x3, x4, x5, x6, x7, x8, x9, x10, x11, x12, x13, x14, xf⟩ := b_P.fifteen
    clear b_P
    go_wp2_with fail
    refine (CI.out _ BB2.out).mono ?_
    rintro e w3 ⟨rfl, g1⟩
    clear x0 x1 x2 x3 x4 x5 x6 x7 x8 x9 x10 x11 x12 x13 x14 xf
    have XP3 := Lib.hid (XP2.out.below g1)
    have XR3 := Lib.hid (XR2.out.below g1)
    have BB3 := Lib.hid (BB2.out.trans (g1.mono BB2.out.size))
    clear XP2 XR2 BB2 g1
    have b_R := XR3.out
    obtain ⟨z0, z1, z2, z3, z4, z5, z6, z7, z8, z9, z10, z11, z12, z13, z14, zf⟩ := b_R.fifteen
    clear b_R
    go_wp2_with fail
    clear z0 z1 z2 z3 z4 z5 z6 z7 z8 z9 z10 z11 z12 z13 z14 zf
    have BR := BoxF.all15 (v0 := .int .i64 0) (v1 := .int .i64 0) (v2 := .int .i64 0) (v3 := .int .i64 0) (v4 := .int .i64 0) (v5 := .int .i64 0) (v6 := .int .i64 0) (v7 := .int .i64 0) (v8 := .int .i64 0) (v9 := .int .i64 0) (v10 := .int .i64 0) (v11 := .int .i64 0) (v12 := .int .i64 0) (v13 := .int .i64 0) (v14 := .int .i64 0) (XR3.out)
    have BE := BB3.out.grown (grown15 w3 (w.heap.size + 1 + 1 + 1) (.int .i64 0) (.int .i64 0) (.int .i64 0) (.int .i64 0) (.int .i64 0) (.int .i64 0) (.int .i64 0) (.int .i64 0) (.int .i64 0) (.int .i64 0) (.int .i64 0) (.int .i64 0) (.int .i64 0) (.int .i64 0) (.int .i64 0)) BB3.out.size (fun q e => by cases e; omega)
    generalize (((((((((((((((w3.setCell ⟨w.heap.size + 1 + 1 + 1, 0, none⟩ (.int .i64 0)).setCell ⟨w.heap.size + 1 + 1 + 1, 1, none⟩ (.int .i64 0)).setCell ⟨w.heap.size + 1 + 1 + 1, 2, none⟩ (.int .i64 0)).setCell ⟨w.heap.size + 1 + 1 + 1, 3, none⟩ (.int .i64 0)).setCell ⟨w.heap.size + 1 + 1 + 1, 4, none⟩ (.int .i64 0)).setCell ⟨w.heap.size + 1 + 1 + 1, 5, none⟩ (.int .i64 0)).setCell ⟨w.heap.size + 1 + 1 + 1, 6, none⟩ (.int .i64 0)).setCell ⟨w.heap.size + 1 + 1 + 1, 7, none⟩ (.int .i64 0)).setCell ⟨w.heap.size + 1 + 1 + 1, 8, none⟩ (.int .i64 0)).setCell ⟨w.heap.size + 1 + 1 + 1, 9, none⟩ (.int .i64 0)).setCell ⟨w.heap.size + 1 + 1 + 1, 10, none⟩ (.int .i64 0)).setCell ⟨w.heap.size + 1 + 1 + 1, 11, none⟩ (.int .i64 0)).setCell ⟨w.heap.size + 1 + 1 + 1, 12, none⟩ (.int .i64 0)).setCell ⟨w.heap.size + 1 + 1 + 1, 13, none⟩ (.int .i64 0)).setCell ⟨w.heap.size + 1 + 1 + 1, 14, none⟩ (.int .i64 0)) = WE at *
    obtain ⟨z0, z1, z2, z3, z4, z5, z6, z7, z8, z9, z10, z11, z12, z13, z14, zf⟩ := BR.fifteen
    exact bodyPost_ret (v := .tuple #[.agg #[.int .i64 0, .int .i64 0, .int .i64 0, .int .i64 0, .int .i64 0, .int .i64 0, .int .i64 0, .int .i64 0, .int .i64 0, .int .i64 0, .int .i64 0, .int .i64 0, .int .i64 0, .int .i64 0, .int .i64 0], .bool false]) (by simp [results, Tryd.results20, go_sem, z0, z1, z2, z3, z4, z5, z6, z7, z8, z9, z10, z11, z12, z13, z14]) rfl ⟨rfl, BE⟩
set_option maxRecDepth 100000 in
set_option maxHeartbeats 8000000 in
theorem withGroups_3 (d l f s o n x c k a t c' k' a' t' b0 b1 b2 b3 e0 e1 e2 e3 : Int) (w : World) (h1 : aOkB d l f s o n x c k a t c' k' a' t' = true) (h2 : aOkB d l f s o n x b0 b1 b2 b3 e0 e1 e2 e3 = true) (hA : AttsLie w) :
    Calls Tryd.prog 20 #[.agg #[.int .i64 d, .int .i64 l, .int .i64 f, .int .i64 s, .int .i64 o, .int .i64 n, .int .i64 x, .int .i64 c, .int .i64 k, .int .i64 a, .int .i64 t, .int .i64 c', .int .i64 k', .int .i64 a', .int .i64 t'], .agg #[.int .i64 b0, .int .i64 b1, .int .i64 b2, .int .i64 b3], .agg #[.int .i64 e0, .int .i64 e1, .int .i64 e2, .int .i64 e3]] w (AnsA w d l f s o n x b0 b1 b2 b3 e0 e1 e2 e3 true) := by
  have CV := Lib.hid (fun W (hb : Below w.heap.size w W) => validArms_impl d l f s o n x c k a t c' k' a' t' W true h1 (hA.below hb))
  have CI := Lib.hid (fun W (hb : Below w.heap.size w W) => armsIf_true d l f s o n x b0 b1 b2 b3 e0 e1 e2 e3 W h2 (hA.below hb))
  clear h1 h2 hA
  have b_P := (((BoxF.new w [.int .i64 d, .int .i64 l, .int .i64 f, .int .i64 s, .int .i64 o, .int .i64 n, .int .i64 x, .int .i64 c, .int .i64 k, .int .i64 a, .int .i64 t, .int .i64 c', .int .i64 k', .int .i64 a', .int .i64 t'] 29).alloc (.cells #[.int .i64 b0, .int .i64 b1, .int .i64 b2, .int .i64 b3] 27 (0, 0))).alloc (.cells #[.int .i64 e0, .int .i64 e1, .int .i64 e2, .int .i64 e3] 27 (0, 0))).alloc (.cells #[.int .i64 0, .int .i64 0, .int .i64 0, .int .i64 0, .int .i64 0, .int .i64 0, .int .i64 0, .int .i64 0, .int .i64 0, .int .i64 0, .int .i64 0, .int .i64 0, .int .i64 0, .int .i64 0, .int .i64 0] 29 (0, 0))
  have b_B := ((BoxF.new (w.alloc (.cells #[.int .i64 d, .int .i64 l, .int .i64 f, .int .i64 s, .int .i64 o, .int .i64 n, .int .i64 x, .int .i64 c, .int .i64 k, .int .i64 a, .int .i64 t, .int .i64 c', .int .i64 k', .int .i64 a', .int .i64 t'] 29 (0, 0))) [.int .i64 b0, .int .i64 b1, .int .i64 b2, .int .i64 b3] 27).alloc (.cells #[.int .i64 e0, .int .i64 e1, .int .i64 e2, .int .i64 e3] 27 (0, 0))).alloc (.cells #[.int .i64 0, .int .i64 0, .int .i64 0, .int .i64 0, .int .i64 0, .int .i64 0, .int .i64 0, .int .i64 0, .int .i64 0, .int .i64 0, .int .i64 0, .int .i64 0, .int .i64 0, .int .i64 0, .int .i64 0] 29 (0, 0))
  have b_E := (BoxF.new ((w.alloc (.cells #[.int .i64 d, .int .i64 l, .int .i64 f, .int .i64 s, .int .i64 o, .int .i64 n, .int .i64 x, .int .i64 c, .int .i64 k, .int .i64 a, .int .i64 t, .int .i64 c', .int .i64 k', .int .i64 a', .int .i64 t'] 29 (0, 0))).alloc (.cells #[.int .i64 b0, .int .i64 b1, .int .i64 b2, .int .i64 b3] 27 (0, 0))) [.int .i64 e0, .int .i64 e1, .int .i64 e2, .int .i64 e3] 27).alloc (.cells #[.int .i64 0, .int .i64 0, .int .i64 0, .int .i64 0, .int .i64 0, .int .i64 0, .int .i64 0, .int .i64 0, .int .i64 0, .int .i64 0, .int .i64 0, .int .i64 0, .int .i64 0, .int .i64 0, .int .i64 0] 29 (0, 0))
  have b_R := BoxF.new (((w.alloc (.cells #[.int .i64 d, .int .i64 l, .int .i64 f, .int .i64 s, .int .i64 o, .int .i64 n, .int .i64 x, .int .i64 c, .int .i64 k, .int .i64 a, .int .i64 t, .int .i64 c', .int .i64 k', .int .i64 a', .int .i64 t'] 29 (0, 0))).alloc (.cells #[.int .i64 b0, .int .i64 b1, .int .i64 b2, .int .i64 b3] 27 (0, 0))).alloc (.cells #[.int .i64 e0, .int .i64 e1, .int .i64 e2, .int .i64 e3] 27 (0, 0))) [.int .i64 0, .int .i64 0, .int .i64 0, .int .i64 0, .int .i64 0, .int .i64 0, .int .i64 0, .int .i64 0, .int .i64 0, .int .i64 0, .int .i64 0, .int .i64 0, .int .i64 0, .int .i64 0, .int .i64 0] 29
  simp only [World.size_alloc] at b_B b_E b_R
  have bb_ : Below w.heap.size w ((((w.alloc (.cells #[.int .i64 d, .int .i64 l, .int .i64 f, .int .i64 s, .int .i64 o, .int .i64 n, .int .i64 x, .int .i64 c, .int .i64 k, .int .i64 a, .int .i64 t, .int .i64 c', .int .i64 k', .int .i64 a', .int .i64 t'] 29 (0, 0))).alloc (.cells #[.int .i64 b0, .int .i64 b1, .int .i64 b2, .int .i64 b3] 27 (0, 0))).alloc (.cells #[.int .i64 e0, .int .i64 e1, .int .i64 e2, .int .i64 e3] 27 (0, 0))).alloc (.cells #[.int .i64 0, .int .i64 0, .int .i64 0, .int .i64 0, .int .i64 0, .int .i64 0, .int .i64 0, .int .i64 0, .int .i64 0, .int .i64 0, .int .i64 0, .int .i64 0, .int .i64 0, .int .i64 0, .int .i64 0] 29 (0, 0))) := ((((Below.refl _ w).alloc (by first | exact Nat.le_refl _ | (simp; done) | (simp; omega)) (.cells #[.int .i64 d, .int .i64 l, .int .i64 f, .int .i64 s, .int .i64 o, .int .i64 n, .int .i64 x, .int .i64 c, .int .i64 k, .int .i64 a, .int .i64 t, .int .i64 c', .int .i64 k', .int .i64 a', .int .i64 t'] 29 (0, 0))).alloc (by first | exact Nat.le_refl _ | (simp; done) | (simp; omega)) (.cells #[.int .i64 b0, .int .i64 b1, .int .i64 b2, .int .i64 b3] 27 (0, 0))).alloc (by first | exact Nat.le_refl _ | (simp; done) | (simp; omega)) (.cells #[.int .i64 e0, .int .i64 e1, .int .i64 e2, .int .i64 e3] 27 (0, 0))).alloc (by first | exact Nat.le_refl _ | (simp; done) | (simp; omega)) (.cells #[.int .i64 0, .int .i64 0, .int .i64 0, .int .i64 0, .int .i64 0, .int .i64 0, .int .i64 0, .int .i64 0, .int .i64 0, .int .i64 0, .int .i64 0, .int .i64 0, .int .i64 0, .int .i64 0, .int .i64 0] 29 (0, 0))
  have XP0 := Lib.hid b_P
  have XB0 := Lib.hid b_B
  have XE0 := Lib.hid b_E
  have XR0 := Lib.hid b_R
  have BB0 := Lib.hid bb_
  clear bb_ b_P b_B b_E b_R
  have b_P := XP0.out
  obtain ⟨x0, x1, x2, x3, x4, x5, x6, x7, x8, x9, x10, x11, x12, x13, x14, xf⟩ := b_P.fifteen
  clear b_P
  go_enter Tryd.func20, Tryd.ntmps20
  go_wp2_with fail
  refine (CV.out _ BB0.out).mono ?_
  rintro e w1 ⟨rfl, g1⟩
  clear x0 x1 x2 x3 x4 x5 x6 x7 x8 x9 x10 x11 x12 x13 x14 xf
  have XP1 := Lib.hid (XP0.out.below g1)
  have XB1 := Lib.hid (XB0.out.below g1)
  have XE1 := Lib.hid (XE0.out.below g1)
  have XR1 := Lib.hid (XR0.out.below g1)
  have BB1 := Lib.hid (BB0.out.trans (g1.mono BB0.out.size))
  clear XP0 XB0 XE0 XR0 BB0 g1
  have b_P := XP1.out
  obtain ⟨x0, x1, x2, x3, x4, x5, x6, x7, x8, x9, x10, x11, x12, x13, x14, xf⟩ := b_P.fifteen
  clear b_P
  have b_B := XB1.out
  obtain ⟨y0, y1, y2, y3, yf⟩ := b_B.four
  clear b_B
  have b_E := XE1.out
  obtain ⟨u0, u1, u2, u3, uf⟩ := b_E.four
  clear b_E
  go_wp2_with fail
  go_region
  · clear x0 x1 x2 x3 x4 x5 x6 x7 x8 x9 x10 x11 x12 x13 x14 xf
    clear y0 y1 y2 y3 yf
    clear u0 u1 u2 u3 uf
    have q1 : BoxF ((((w1.setCell ⟨w.heap.size, 7, none⟩ (.int .i64 b0)).setCell ⟨w.heap.size, 8, none⟩ (.int .i64 b1)).setCell ⟨w.heap.size, 9, none⟩ (.int .i64 b2)).setCell ⟨w.heap.size, 10, none⟩ (.int .i64 b3)) (w.heap.size) [.int .i64 d, .int .i64 l, .int .i64 f, .int .i64 s, .int .i64 o, .int .i64 n, .int .i64 x, .int .i64 b0, .int .i64 b1, .int .i64 b2, .int .i64 b3, .int .i64 c', .int .i64 k', .int .i64 a', .int .i64 t'] 29 := sets_box [.int .i64 b0, .int .i64 b1, .int .i64 b2, .int .i64 b3] 7 XP1.out
    have q2 : BoxF ((((((((w1.setCell ⟨w.heap.size, 7, none⟩ (.int .i64 b0)).setCell ⟨w.heap.size, 8, none⟩ (.int .i64 b1)).setCell ⟨w.heap.size, 9, none⟩ (.int .i64 b2)).setCell ⟨w.heap.size, 10, none⟩ (.int .i64 b3)).setCell ⟨w.heap.size, 11, none⟩ (.int .i64 e0)).setCell ⟨w.heap.size, 12, none⟩ (.int .i64 e1)).setCell ⟨w.heap.size, 13, none⟩ (.int .i64 e2)).setCell ⟨w.heap.size, 14, none⟩ (.int .i64 e3)) (w.heap.size) [.int .i64 d, .int .i64 l, .int .i64 f, .int .i64 s, .int .i64 o, .int .i64 n, .int .i64 x, .int .i64 b0, .int .i64 b1, .int .i64 b2, .int .i64 b3, .int .i64 e0, .int .i64 e1, .int .i64 e2, .int .i64 e3] 29 := sets_box [.int .i64 e0, .int .i64 e1, .int .i64 e2, .int .i64 e3] 11 q1
    have XP2 := Lib.hid (BoxF.drew q2)
    clear q1 q2
    have q1 : BoxF ((((w1.setCell ⟨w.heap.size, 7, none⟩ (.int .i64 b0)).setCell ⟨w.heap.size, 8, none⟩ (.int .i64 b1)).setCell ⟨w.heap.size, 9, none⟩ (.int .i64 b2)).setCell ⟨w.heap.size, 10, none⟩ (.int .i64 b3)) (w.heap.size + 1 + 1 + 1) [.int .i64 0, .int .i64 0, .int .i64 0, .int .i64 0, .int .i64 0, .int .i64 0, .int .i64 0, .int .i64 0, .int .i64 0, .int .i64 0, .int .i64 0, .int .i64 0, .int .i64 0, .int .i64 0, .int .i64 0] 29 := sets_far (by omega) [.int .i64 b0, .int .i64 b1, .int .i64 b2, .int .i64 b3] 7 XR1.out
    have q2 : BoxF ((((((((w1.setCell ⟨w.heap.size, 7, none⟩ (.int .i64 b0)).setCell ⟨w.heap.size, 8, none⟩ (.int .i64 b1)).setCell ⟨w.heap.size, 9, none⟩ (.int .i64 b2)).setCell ⟨w.heap.size, 10, none⟩ (.int .i64 b3)).setCell ⟨w.heap.size, 11, none⟩ (.int .i64 e0)).setCell ⟨w.heap.size, 12, none⟩ (.int .i64 e1)).setCell ⟨w.heap.size, 13, none⟩ (.int .i64 e2)).setCell ⟨w.heap.size, 14, none⟩ (.int .i64 e3)) (w.heap.size + 1 + 1 + 1) [.int .i64 0, .int .i64 0, .int .i64 0, .int .i64 0, .int .i64 0, .int .i64 0, .int .i64 0, .int .i64 0, .int .i64 0, .int .i64 0, .int .i64 0, .int .i64 0, .int .i64 0, .int .i64 0, .int .i64 0] 29 := sets_far (by omega) [.int .i64 e0, .int .i64 e1, .int .i64 e2, .int .i64 e3] 11 q1
    have XR2 := Lib.hid (BoxF.drew q2)
    clear q1 q2
    have q1 : Below w.heap.size w ((((w1.setCell ⟨w.heap.size, 7, none⟩ (.int .i64 b0)).setCell ⟨w.heap.size, 8, none⟩ (.int .i64 b1)).setCell ⟨w.heap.size, 9, none⟩ (.int .i64 b2)).setCell ⟨w.heap.size, 10, none⟩ (.int .i64 b3)) := sets_below (by omega) [.int .i64 b0, .int .i64 b1, .int .i64 b2, .int .i64 b3] 7 BB1.out
    have q2 : Below w.heap.size w ((((((((w1.setCell ⟨w.heap.size, 7, none⟩ (.int .i64 b0)).setCell ⟨w.heap.size, 8, none⟩ (.int .i64 b1)).setCell ⟨w.heap.size, 9, none⟩ (.int .i64 b2)).setCell ⟨w.heap.size, 10, none⟩ (.int .i64 b3)).setCell ⟨w.heap.size, 11, none⟩ (.int .i64 e0)).setCell ⟨w.heap.size, 12, none⟩ (.int .i64 e1)).setCell ⟨w.heap.size, 13, none⟩ (.int .i64 e2)).setCell ⟨w.heap.size, 14, none⟩ (.int .i64 e3)) := sets_below (by omega) [.int .i64 e0, .int .i64 e1, .int .i64 e2, .int .i64 e3] 11 q1
    have BB2 := Lib.hid q2.drew
    clear q1 q2
    clear XP1 XB1 XE1 XR1 BB1
    generalize (((((((((w1.setCell ⟨w.heap.size, 7, none⟩ (.int .i64 b0)).setCell ⟨w.heap.size, 8, none⟩ (.int .i64 b1)).setCell ⟨w.heap.size, 9, none⟩ (.int .i64 b2)).setCell ⟨w.heap.size, 10, none⟩ (.int .i64 b3)).setCell ⟨w.heap.size, 11, none⟩ (.int .i64 e0)).setCell ⟨w.heap.size, 12, none⟩ (.int .i64 e1)).setCell ⟨w.heap.size, 13, none⟩ (.int .i64 e2)).setCell ⟨w.heap.size, 14, none⟩ (.int .i64 e3))).drew = W2 at *
    have b_P := XP2.out
    obtain ⟨x0, x1, x2, x3, x4, x5, x6, x7, x8, x9, x10, x11, x12, x13, x14, xf⟩ := b_P.fifteen
    clear b_P
    go_wp2_with fail
    refine (CI.out _ BB2.out).mono ?_
    rintro e w3 ⟨rfl, g1⟩
    clear x0 x1 x2 x3 x4 x5 x6 x7 x8 x9 x10 x11 x12 x13 x14 xf
    have XP3 := Lib.hid (XP2.out.below g1)
    have XR3 := Lib.hid (XR2.out.below g1)
    have BB3 := Lib.hid (BB2.out.trans (g1.mono BB2.out.size))
    clear XP2 XR2 BB2 g1
    have b_R := XR3.out
    obtain ⟨z0, z1, z2, z3, z4, z5, z6, z7, z8, z9, z10, z11, z12, z13, z14, zf⟩ := b_R.fifteen
    clear b_R
    go_wp2_with fail
    clear z0 z1 z2 z3 z4 z5 z6 z7 z8 z9 z10 z11 z12 z13 z14 zf
    have BR := BoxF.all15 (v0 := .int .i64 d) (v1 := .int .i64 l) (v2 := .int .i64 f) (v3 := .int .i64 s) (v4 := .int .i64 o) (v5 := .int .i64 n) (v6 := .int .i64 x) (v7 := .int .i64 b0) (v8 := .int .i64 b1) (v9 := .int .i64 b2) (v10 := .int .i64 b3) (v11 := .int .i64 e0) (v12 := .int .i64 e1) (v13 := .int .i64 e2) (v14 := .int .i64 e3) (XR3.out)
    have BE := BB3.out.grown (grown15 w3 (w.heap.size + 1 + 1 + 1) (.int .i64 d) (.int .i64 l) (.int .i64 f) (.int .i64 s) (.int .i64 o) (.int .i64 n) (.int .i64 x) (.int .i64 b0) (.int .i64 b1) (.int .i64 b2) (.int .i64 b3) (.int .i64 e0) (.int .i64 e1) (.int .i64 e2) (.int .i64 e3)) BB3.out.size (fun q e => by cases e; omega)
    generalize (((((((((((((((w3.setCell ⟨w.heap.size + 1 + 1 + 1, 0, none⟩ (.int .i64 d)).setCell ⟨w.heap.size + 1 + 1 + 1, 1, none⟩ (.int .i64 l)).setCell ⟨w.heap.size + 1 + 1 + 1, 2, none⟩ (.int .i64 f)).setCell ⟨w.heap.size + 1 + 1 + 1, 3, none⟩ (.int .i64 s)).setCell ⟨w.heap.size + 1 + 1 + 1, 4, none⟩ (.int .i64 o)).setCell ⟨w.heap.size + 1 + 1 + 1, 5, none⟩ (.int .i64 n)).setCell ⟨w.heap.size + 1 + 1 + 1, 6, none⟩ (.int .i64 x)).setCell ⟨w.heap.size + 1 + 1 + 1, 7, none⟩ (.int .i64 b0)).setCell ⟨w.heap.size + 1 + 1 + 1, 8, none⟩ (.int .i64 b1)).setCell ⟨w.heap.size + 1 + 1 + 1, 9, none⟩ (.int .i64 b2)).setCell ⟨w.heap.size + 1 + 1 + 1, 10, none⟩ (.int .i64 b3)).setCell ⟨w.heap.size + 1 + 1 + 1, 11, none⟩ (.int .i64 e0)).setCell ⟨w.heap.size + 1 + 1 + 1, 12, none⟩ (.int .i64 e1)).setCell ⟨w.heap.size + 1 + 1 + 1, 13, none⟩ (.int .i64 e2)).setCell ⟨w.heap.size + 1 + 1 + 1, 14, none⟩ (.int .i64 e3)) = WE at *
    obtain ⟨z0, z1, z2, z3, z4, z5, z6, z7, z8, z9, z10, z11, z12, z13, z14, zf⟩ := BR.fifteen
    exact bodyPost_ret (v := .tuple #[.agg #[.int .i64 d, .int .i64 l, .int .i64 f, .int .i64 s, .int .i64 o, .int .i64 n, .int .i64 x, .int .i64 b0, .int .i64 b1, .int .i64 b2, .int .i64 b3, .int .i64 e0, .int .i64 e1, .int .i64 e2, .int .i64 e3], .bool true]) (by simp [results, Tryd.results20, go_sem, z0, z1, z2, z3, z4, z5, z6, z7, z8, z9, z10, z11, z12, z13, z14]) rfl ⟨rfl, BE⟩
theorem withGroups_impl (d l f s o n x c k a t c' k' a' t' b0 b1 b2 b3 e0 e1 e2 e3 : Int) (w : World) (r : Bool) (hr : (aOkB d l f s o n x c k a t c' k' a' t' && aOkB d l f s o n x b0 b1 b2 b3 e0 e1 e2 e3) = r) (hA : AttsLie w) :
    Calls Tryd.prog 20 #[.agg #[.int .i64 d, .int .i64 l, .int .i64 f, .int .i64 s, .int .i64 o, .int .i64 n, .int .i64 x, .int .i64 c, .int .i64 k, .int .i64 a, .int .i64 t, .int .i64 c', .int .i64 k', .int .i64 a', .int .i64 t'], .agg #[.int .i64 b0, .int .i64 b1, .int .i64 b2, .int .i64 b3], .agg #[.int .i64 e0, .int .i64 e1, .int .i64 e2, .int .i64 e3]] w (if r = true then AnsA w d l f s o n x b0 b1 b2 b3 e0 e1 e2 e3 true else AnsA w 0 0 0 0 0 0 0 0 0 0 0 0 0 0 0 false) := by
  subst hr
  rcases Bool.eq_false_or_eq_true (aOkB d l f s o n x c k a t c' k' a' t') with h1 | h1
  · rcases Bool.eq_false_or_eq_true (aOkB d l f s o n x b0 b1 b2 b3 e0 e1 e2 e3) with h2 | h2
    · rw [h1, h2]
      exact withGroups_3 d l f s o n x c k a t c' k' a' t' b0 b1 b2 b3 e0 e1 e2 e3 w h1 h2 hA
    · rw [h1, h2]
      exact withGroups_2 d l f s o n x c k a t c' k' a' t' b0 b1 b2 b3 e0 e1 e2 e3 w h1 h2 hA
  · rw [h1]
    exact withGroups_1 d l f s o n x c k a t c' k' a' t' b0 b1 b2 b3 e0 e1 e2 e3 w h1 hA
end Go.Proofs.YtpcghkciibbmgaaDoor
