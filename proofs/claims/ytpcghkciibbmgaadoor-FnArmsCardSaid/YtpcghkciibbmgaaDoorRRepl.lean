/- Contract: the program's ReplaceTincture. -/
import Derived.Test.YtpcghkciibbmgaaDoorRArmsV
import Derived.Test.YtpcghkciibbmgaaDoorPlacesM
namespace Go.Proofs.YtpcghkciibbmgaaDoor
open Go.RowKit

/-- x for old, and other numbers as they are. -/
def turn1 (old y z : Int) : Int := if z = old then y else z
set_option maxRecDepth 100000 in
set_option maxHeartbeats 8000000 in
theorem replaceI_1 (d l f s o n x c k a t c' k' a' t' old y : Int) (w : World) (h1 : aOkB d l f s o n x c k a t c' k' a' t' = false) (hA : AttsLie w) :
    Calls Tryd.prog 7 #[.agg #[.int .i64 d, .int .i64 l, .int .i64 f, .int .i64 s, .int .i64 o, .int .i64 n, .int .i64 x, .int .i64 c, .int .i64 k, .int .i64 a, .int .i64 t, .int .i64 c', .int .i64 k', .int .i64 a', .int .i64 t'], .int .i64 old, .int .i64 y] w (AnsA w 0 0 0 0 0 0 0 0 0 0 0 0 0 0 0 false) := by
  have CV := Lib.hid (fun W (hb : Below w.heap.size w W) => validArms_impl d l f s o n x c k a t c' k' a' t' W false h1 (hA.below hb))
  clear h1 hA
  have b_P := (BoxF.new w [.int .i64 d, .int .i64 l, .int .i64 f, .int .i64 s, .int .i64 o, .int .i64 n, .int .i64 x, .int .i64 c, .int .i64 k, .int .i64 a, .int .i64 t, .int .i64 c', .int .i64 k', .int .i64 a', .int .i64 t'] 29).alloc (.cells #[.int .i64 0, .int .i64 0, .int .i64 0, .int .i64 0, .int .i64 0, .int .i64 0, .int .i64 0, .int .i64 0, .int .i64 0, .int .i64 0, .int .i64 0, .int .i64 0, .int .i64 0, .int .i64 0, .int .i64 0] 29 (0, 0))
  have b_R := BoxF.new (w.alloc (.cells #[.int .i64 d, .int .i64 l, .int .i64 f, .int .i64 s, .int .i64 o, .int .i64 n, .int .i64 x, .int .i64 c, .int .i64 k, .int .i64 a, .int .i64 t, .int .i64 c', .int .i64 k', .int .i64 a', .int .i64 t'] 29 (0, 0))) [.int .i64 0, .int .i64 0, .int .i64 0, .int .i64 0, .int .i64 0, .int .i64 0, .int .i64 0, .int .i64 0, .int .i64 0, .int .i64 0, .int .i64 0, .int .i64 0, .int .i64 0, .int .i64 0, .int .i64 0] 29
  simp only [World.size_alloc] at b_R
  have bb_ : Below w.heap.size w ((w.alloc (.cells #[.int .i64 d, .int .i64 l, .int .i64 f, .int .i64 s, .int .i64 o, .int .i64 n, .int .i64 x, .int .i64 c, .int .i64 k, .int .i64 a, .int .i64 t, .int .i64 c', .int .i64 k', .int .i64 a', .int .i64 t'] 29 (0, 0))).alloc (.cells #[.int .i64 0, .int .i64 0, .int .i64 0, .int .i64 0, .int .i64 0, .int .i64 0, .int .i64 0, .int .i64 0, .int .i64 0, .int .i64 0, .int .i64 0, .int .i64 0, .int .i64 0, .int .i64 0, .int .i64 0] 29 (0, 0))) := ((Below.refl _ w).alloc (by first | exact Nat.le_refl _ | (simp; done) | (simp; omega)) (.cells #[.int .i64 d, .int .i64 l, .int .i64 f, .int .i64 s, .int .i64 o, .int .i64 n, .int .i64 x, .int .i64 c, .int .i64 k, .int .i64 a, .int .i64 t, .int .i64 c', .int .i64 k', .int .i64 a', .int .i64 t'] 29 (0, 0))).alloc (by first | exact Nat.le_refl _ | (simp; done) | (simp; omega)) (.cells #[.int .i64 0, .int .i64 0, .int .i64 0, .int .i64 0, .int .i64 0, .int .i64 0, .int .i64 0, .int .i64 0, .int .i64 0, .int .i64 0, .int .i64 0, .int .i64 0, .int .i64 0, .int .i64 0, .int .i64 0] 29 (0, 0))
  have XP0 := Lib.hid b_P
  have XR0 := Lib.hid b_R
  have BB0 := Lib.hid bb_
  clear bb_ b_P b_R
  have b_P := XP0.out
  obtain ⟨x0, x1, x2, x3, x4, x5, x6, x7, x8, x9, x10, x11, x12, x13, x14, xf⟩ := b_P.fifteen
  clear b_P
  go_enter Tryd.func7, Tryd.ntmps7
  go_wp2_with fail
  refine (CV.out _ BB0.out).mono ?_
  rintro e w1 ⟨rfl, g1⟩
  clear x0 x1 x2 x3 x4 x5 x6 x7 x8 x9 x10 x11 x12 x13 x14 xf
  have XP1 := Lib.hid (XP0.out.below g1)
  have XR1 := Lib.hid (XR0.out.below g1)
  have BB1 := Lib.hid (BB0.out.trans (g1.mono BB0.out.size))
  clear XP0 XR0 BB0 g1
  have b_R := XR1.out
  obtain ⟨z0, z1, z2, z3, z4, z5, z6, z7, z8, z9, z10, z11, z12, z13, z14, zf⟩ := b_R.fifteen
  clear b_R
  go_wp2_with fail
  clear z0 z1 z2 z3 z4 z5 z6 z7 z8 z9 z10 z11 z12 z13 z14 zf
  have BR := BoxF.all15 (v0 := .int .i64 0) (v1 := .int .i64 0) (v2 := .int .i64 0) (v3 := .int .i64 0) (v4 := .int .i64 0) (v5 := .int .i64 0) (v6 := .int .i64 0) (v7 := .int .i64 0) (v8 := .int .i64 0) (v9 := .int .i64 0) (v10 := .int .i64 0) (v11 := .int .i64 0) (v12 := .int .i64 0) (v13 := .int .i64 0) (v14 := .int .i64 0) (XR1.out)
  have BE := BB1.out.grown (grown15 w1 (w.heap.size + 1) (.int .i64 0) (.int .i64 0) (.int .i64 0) (.int .i64 0) (.int .i64 0) (.int .i64 0) (.int .i64 0) (.int .i64 0) (.int .i64 0) (.int .i64 0) (.int .i64 0) (.int .i64 0) (.int .i64 0) (.int .i64 0) (.int .i64 0)) BB1.out.size (fun q e => by cases e; omega)
  generalize (((((((((((((((w1.setCell ⟨w.heap.size + 1, 0, none⟩ (.int .i64 0)).setCell ⟨w.heap.size + 1, 1, none⟩ (.int .i64 0)).setCell ⟨w.heap.size + 1, 2, none⟩ (.int .i64 0)).setCell ⟨w.heap.size + 1, 3, none⟩ (.int .i64 0)).setCell ⟨w.heap.size + 1, 4, none⟩ (.int .i64 0)).setCell ⟨w.heap.size + 1, 5, none⟩ (.int .i64 0)).setCell ⟨w.heap.size + 1, 6, none⟩ (.int .i64 0)).setCell ⟨w.heap.size + 1, 7, none⟩ (.int .i64 0)).setCell ⟨w.heap.size + 1, 8, none⟩ (.int .i64 0)).setCell ⟨w.heap.size + 1, 9, none⟩ (.int .i64 0)).setCell ⟨w.heap.size + 1, 10, none⟩ (.int .i64 0)).setCell ⟨w.heap.size + 1, 11, none⟩ (.int .i64 0)).setCell ⟨w.heap.size + 1, 12, none⟩ (.int .i64 0)).setCell ⟨w.heap.size + 1, 13, none⟩ (.int .i64 0)).setCell ⟨w.heap.size + 1, 14, none⟩ (.int .i64 0)) = WE at *
  obtain ⟨z0, z1, z2, z3, z4, z5, z6, z7, z8, z9, z10, z11, z12, z13, z14, zf⟩ := BR.fifteen
  exact bodyPost_ret (v := .tuple #[.agg #[.int .i64 0, .int .i64 0, .int .i64 0, .int .i64 0, .int .i64 0, .int .i64 0, .int .i64 0, .int .i64 0, .int .i64 0, .int .i64 0, .int .i64 0, .int .i64 0, .int .i64 0, .int .i64 0, .int .i64 0], .bool false]) (by simp [results, Tryd.results7, go_sem, z0, z1, z2, z3, z4, z5, z6, z7, z8, z9, z10, z11, z12, z13, z14]) rfl ⟨rfl, BE⟩
set_option maxRecDepth 100000 in
set_option maxHeartbeats 8000000 in
theorem replaceI_2 (d l f s o n x c k a t c' k' a' t' old y : Int) (w : World) (h1 : aOkB d l f s o n x c k a t c' k' a' t' = true) (h2 : old < 1 ∨ 9 < old) (hA : AttsLie w) :
    Calls Tryd.prog 7 #[.agg #[.int .i64 d, .int .i64 l, .int .i64 f, .int .i64 s, .int .i64 o, .int .i64 n, .int .i64 x, .int .i64 c, .int .i64 k, .int .i64 a, .int .i64 t, .int .i64 c', .int .i64 k', .int .i64 a', .int .i64 t'], .int .i64 old, .int .i64 y] w (AnsA w 0 0 0 0 0 0 0 0 0 0 0 0 0 0 0 false) := by
  have CV := Lib.hid (fun W (hb : Below w.heap.size w W) => validArms_impl d l f s o n x c k a t c' k' a' t' W true h1 (hA.below hb))
  have CO := Lib.hid (fun W => isT_no old W h2)
  clear h2
  clear h1 hA
  have b_P := (BoxF.new w [.int .i64 d, .int .i64 l, .int .i64 f, .int .i64 s, .int .i64 o, .int .i64 n, .int .i64 x, .int .i64 c, .int .i64 k, .int .i64 a, .int .i64 t, .int .i64 c', .int .i64 k', .int .i64 a', .int .i64 t'] 29).alloc (.cells #[.int .i64 0, .int .i64 0, .int .i64 0, .int .i64 0, .int .i64 0, .int .i64 0, .int .i64 0, .int .i64 0, .int .i64 0, .int .i64 0, .int .i64 0, .int .i64 0, .int .i64 0, .int .i64 0, .int .i64 0] 29 (0, 0))
  have b_R := BoxF.new (w.alloc (.cells #[.int .i64 d, .int .i64 l, .int .i64 f, .int .i64 s, .int .i64 o, .int .i64 n, .int .i64 x, .int .i64 c, .int .i64 k, .int .i64 a, .int .i64 t, .int .i64 c', .int .i64 k', .int .i64 a', .int .i64 t'] 29 (0, 0))) [.int .i64 0, .int .i64 0, .int .i64 0, .int .i64 0, .int .i64 0, .int .i64 0, .int .i64 0, .int .i64 0, .int .i64 0, .int .i64 0, .int .i64 0, .int .i64 0, .int .i64 0, .int .i64 0, .int .i64 0] 29
  simp only [World.size_alloc] at b_R
  have bb_ : Below w.heap.size w ((w.alloc (.cells #[.int .i64 d, .int .i64 l, .int .i64 f, .int .i64 s, .int .i64 o, .int .i64 n, .int .i64 x, .int .i64 c, .int .i64 k, .int .i64 a, .int .i64 t, .int .i64 c', .int .i64 k', .int .i64 a', .int .i64 t'] 29 (0, 0))).alloc (.cells #[.int .i64 0, .int .i64 0, .int .i64 0, .int .i64 0, .int .i64 0, .int .i64 0, .int .i64 0, .int .i64 0, .int .i64 0, .int .i64 0, .int .i64 0, .int .i64 0, .int .i64 0, .int .i64 0, .int .i64 0] 29 (0, 0))) := ((Below.refl _ w).alloc (by first | exact Nat.le_refl _ | (simp; done) | (simp; omega)) (.cells #[.int .i64 d, .int .i64 l, .int .i64 f, .int .i64 s, .int .i64 o, .int .i64 n, .int .i64 x, .int .i64 c, .int .i64 k, .int .i64 a, .int .i64 t, .int .i64 c', .int .i64 k', .int .i64 a', .int .i64 t'] 29 (0, 0))).alloc (by first | exact Nat.le_refl _ | (simp; done) | (simp; omega)) (.cells #[.int .i64 0, .int .i64 0, .int .i64 0, .int .i64 0, .int .i64 0, .int .i64 0, .int .i64 0, .int .i64 0, .int .i64 0, .int .i64 0, .int .i64 0, .int .i64 0, .int .i64 0, .int .i64 0, .int .i64 0] 29 (0, 0))
  have XP0 := Lib.hid b_P
  have XR0 := Lib.hid b_R
  have BB0 := Lib.hid bb_
  clear bb_ b_P b_R
  have b_P := XP0.out
  obtain ⟨x0, x1, x2, x3, x4, x5, x6, x7, x8, x9, x10, x11, x12, x13, x14, xf⟩ := b_P.fifteen
  clear b_P
  go_enter Tryd.func7, Tryd.ntmps7
  go_wp2_with fail
  refine (CV.out _ BB0.out).mono ?_
  rintro e w1 ⟨rfl, g1⟩
  clear x0 x1 x2 x3 x4 x5 x6 x7 x8 x9 x10 x11 x12 x13 x14 xf
  have XP1 := Lib.hid (XP0.out.below g1)
  have XR1 := Lib.hid (XR0.out.below g1)
  have BB1 := Lib.hid (BB0.out.trans (g1.mono BB0.out.size))
  clear XP0 XR0 BB0 g1
  go_wp2_with fail
  refine (CO.out _).mono ?_
  rintro e w_ ⟨rfl, rfl⟩
  have b_R := XR1.out
  obtain ⟨z0, z1, z2, z3, z4, z5, z6, z7, z8, z9, z10, z11, z12, z13, z14, zf⟩ := b_R.fifteen
  clear b_R
  go_wp2_with fail
  clear z0 z1 z2 z3 z4 z5 z6 z7 z8 z9 z10 z11 z12 z13 z14 zf
  have BR := BoxF.all15 (v0 := .int .i64 0) (v1 := .int .i64 0) (v2 := .int .i64 0) (v3 := .int .i64 0) (v4 := .int .i64 0) (v5 := .int .i64 0) (v6 := .int .i64 0) (v7 := .int .i64 0) (v8 := .int .i64 0) (v9 := .int .i64 0) (v10 := .int .i64 0) (v11 := .int .i64 0) (v12 := .int .i64 0) (v13 := .int .i64 0) (v14 := .int .i64 0) (XR1.out)
  have BE := BB1.out.grown (grown15 w1 (w.heap.size + 1) (.int .i64 0) (.int .i64 0) (.int .i64 0) (.int .i64 0) (.int .i64 0) (.int .i64 0) (.int .i64 0) (.int .i64 0) (.int .i64 0) (.int .i64 0) (.int .i64 0) (.int .i64 0) (.int .i64 0) (.int .i64 0) (.int .i64 0)) BB1.out.size (fun q e => by cases e; omega)
  generalize (((((((((((((((w1.setCell ⟨w.heap.size + 1, 0, none⟩ (.int .i64 0)).setCell ⟨w.heap.size + 1, 1, none⟩ (.int .i64 0)).setCell ⟨w.heap.size + 1, 2, none⟩ (.int .i64 0)).setCell ⟨w.heap.size + 1, 3, none⟩ (.int .i64 0)).setCell ⟨w.heap.size + 1, 4, none⟩ (.int .i64 0)).setCell ⟨w.heap.size + 1, 5, none⟩ (.int .i64 0)).setCell ⟨w.heap.size + 1, 6, none⟩ (.int .i64 0)).setCell ⟨w.heap.size + 1, 7, none⟩ (.int .i64 0)).setCell ⟨w.heap.size + 1, 8, none⟩ (.int .i64 0)).setCell ⟨w.heap.size + 1, 9, none⟩ (.int .i64 0)).setCell ⟨w.heap.size + 1, 10, none⟩ (.int .i64 0)).setCell ⟨w.heap.size + 1, 11, none⟩ (.int .i64 0)).setCell ⟨w.heap.size + 1, 12, none⟩ (.int .i64 0)).setCell ⟨w.heap.size + 1, 13, none⟩ (.int .i64 0)).setCell ⟨w.heap.size + 1, 14, none⟩ (.int .i64 0)) = WE at *
  obtain ⟨z0, z1, z2, z3, z4, z5, z6, z7, z8, z9, z10, z11, z12, z13, z14, zf⟩ := BR.fifteen
  exact bodyPost_ret (v := .tuple #[.agg #[.int .i64 0, .int .i64 0, .int .i64 0, .int .i64 0, .int .i64 0, .int .i64 0, .int .i64 0, .int .i64 0, .int .i64 0, .int .i64 0, .int .i64 0, .int .i64 0, .int .i64 0, .int .i64 0, .int .i64 0], .bool false]) (by simp [results, Tryd.results7, go_sem, z0, z1, z2, z3, z4, z5, z6, z7, z8, z9, z10, z11, z12, z13, z14]) rfl ⟨rfl, BE⟩
set_option maxRecDepth 100000 in
set_option maxHeartbeats 8000000 in
theorem replaceI_3 (d l f s o n x c k a t c' k' a' t' old y : Int) (w : World) (h1 : aOkB d l f s o n x c k a t c' k' a' t' = true) (h2 : 1 ≤ old) (h3 : old ≤ 9) (h4 : y < 1 ∨ 9 < y) (hA : AttsLie w) :
    Calls Tryd.prog 7 #[.agg #[.int .i64 d, .int .i64 l, .int .i64 f, .int .i64 s, .int .i64 o, .int .i64 n, .int .i64 x, .int .i64 c, .int .i64 k, .int .i64 a, .int .i64 t, .int .i64 c', .int .i64 k', .int .i64 a', .int .i64 t'], .int .i64 old, .int .i64 y] w (AnsA w 0 0 0 0 0 0 0 0 0 0 0 0 0 0 0 false) := by
  have CV := Lib.hid (fun W (hb : Below w.heap.size w W) => validArms_impl d l f s o n x c k a t c' k' a' t' W true h1 (hA.below hb))
  have CO := Lib.hid (fun W => isT_yes old W h2 h3)
  have CY := Lib.hid (fun W => isT_no y W h4)
  clear h2 h3 h4
  clear h1 hA
  have b_P := (BoxF.new w [.int .i64 d, .int .i64 l, .int .i64 f, .int .i64 s, .int .i64 o, .int .i64 n, .int .i64 x, .int .i64 c, .int .i64 k, .int .i64 a, .int .i64 t, .int .i64 c', .int .i64 k', .int .i64 a', .int .i64 t'] 29).alloc (.cells #[.int .i64 0, .int .i64 0, .int .i64 0, .int .i64 0, .int .i64 0, .int .i64 0, .int .i64 0, .int .i64 0, .int .i64 0, .int .i64 0, .int .i64 0, .int .i64 0, .int .i64 0, .int .i64 0, .int .i64 0] 29 (0, 0))
  have b_R := BoxF.new (w.alloc (.cells #[.int .i64 d, .int .i64 l, .int .i64 f, .int .i64 s, .int .i64 o, .int .i64 n, .int .i64 x, .int .i64 c, .int .i64 k, .int .i64 a, .int .i64 t, .int .i64 c', .int .i64 k', .int .i64 a', .int .i64 t'] 29 (0, 0))) [.int .i64 0, .int .i64 0, .int .i64 0, .int .i64 0, .int .i64 0, .int .i64 0, .int .i64 0, .int .i64 0, .int .i64 0, .int .i64 0, .int .i64 0, .int .i64 0, .int .i64 0, .int .i64 0, .int .i64 0] 29
  simp only [World.size_alloc] at b_R
  have bb_ : Below w.heap.size w ((w.alloc (.cells #[.int .i64 d, .int .i64 l, .int .i64 f, .int .i64 s, .int .i64 o, .int .i64 n, .int .i64 x, .int .i64 c, .int .i64 k, .int .i64 a, .int .i64 t, .int .i64 c', .int .i64 k', .int .i64 a', .int .i64 t'] 29 (0, 0))).alloc (.cells #[.int .i64 0, .int .i64 0, .int .i64 0, .int .i64 0, .int .i64 0, .int .i64 0, .int .i64 0, .int .i64 0, .int .i64 0, .int .i64 0, .int .i64 0, .int .i64 0, .int .i64 0, .int .i64 0, .int .i64 0] 29 (0, 0))) := ((Below.refl _ w).alloc (by first | exact Nat.le_refl _ | (simp; done) | (simp; omega)) (.cells #[.int .i64 d, .int .i64 l, .int .i64 f, .int .i64 s, .int .i64 o, .int .i64 n, .int .i64 x, .int .i64 c, .int .i64 k, .int .i64 a, .int .i64 t, .int .i64 c', .int .i64 k', .int .i64 a', .int .i64 t'] 29 (0, 0))).alloc (by first | exact Nat.le_refl _ | (simp; done) | (simp; omega)) (.cells #[.int .i64 0, .int .i64 0, .int .i64 0, .int .i64 0, .int .i64 0, .int .i64 0, .int .i64 0, .int .i64 0, .int .i64 0, .int .i64 0, .int .i64 0, .int .i64 0, .int .i64 0, .int .i64 0, .int .i64 0] 29 (0, 0))
  have XP0 := Lib.hid b_P
  have XR0 := Lib.hid b_R
  have BB0 := Lib.hid bb_
  clear bb_ b_P b_R
  have b_P := XP0.out
  obtain ⟨x0, x1, x2, x3, x4, x5, x6, x7, x8, x9, x10, x11, x12, x13, x14, xf⟩ := b_P.fifteen
  clear b_P
  go_enter Tryd.func7, Tryd.ntmps7
  go_wp2_with fail
  refine (CV.out _ BB0.out).mono ?_
  rintro e w1 ⟨rfl, g1⟩
  clear x0 x1 x2 x3 x4 x5 x6 x7 x8 x9 x10 x11 x12 x13 x14 xf
  have XP1 := Lib.hid (XP0.out.below g1)
  have XR1 := Lib.hid (XR0.out.below g1)
  have BB1 := Lib.hid (BB0.out.trans (g1.mono BB0.out.size))
  clear XP0 XR0 BB0 g1
  go_wp2_with fail
  refine (CO.out _).mono ?_
  rintro e w_ ⟨rfl, rfl⟩
  go_wp2_with fail
  refine (CY.out _).mono ?_
  rintro e w_ ⟨rfl, rfl⟩
  have b_R := XR1.out
  obtain ⟨z0, z1, z2, z3, z4, z5, z6, z7, z8, z9, z10, z11, z12, z13, z14, zf⟩ := b_R.fifteen
  clear b_R
  go_wp2_with fail
  clear z0 z1 z2 z3 z4 z5 z6 z7 z8 z9 z10 z11 z12 z13 z14 zf
  have BR := BoxF.all15 (v0 := .int .i64 0) (v1 := .int .i64 0) (v2 := .int .i64 0) (v3 := .int .i64 0) (v4 := .int .i64 0) (v5 := .int .i64 0) (v6 := .int .i64 0) (v7 := .int .i64 0) (v8 := .int .i64 0) (v9 := .int .i64 0) (v10 := .int .i64 0) (v11 := .int .i64 0) (v12 := .int .i64 0) (v13 := .int .i64 0) (v14 := .int .i64 0) (XR1.out)
  have BE := BB1.out.grown (grown15 w1 (w.heap.size + 1) (.int .i64 0) (.int .i64 0) (.int .i64 0) (.int .i64 0) (.int .i64 0) (.int .i64 0) (.int .i64 0) (.int .i64 0) (.int .i64 0) (.int .i64 0) (.int .i64 0) (.int .i64 0) (.int .i64 0) (.int .i64 0) (.int .i64 0)) BB1.out.size (fun q e => by cases e; omega)
  generalize (((((((((((((((w1.setCell ⟨w.heap.size + 1, 0, none⟩ (.int .i64 0)).setCell ⟨w.heap.size + 1, 1, none⟩ (.int .i64 0)).setCell ⟨w.heap.size + 1, 2, none⟩ (.int .i64 0)).setCell ⟨w.heap.size + 1, 3, none⟩ (.int .i64 0)).setCell ⟨w.heap.size + 1, 4, none⟩ (.int .i64 0)).setCell ⟨w.heap.size + 1, 5, none⟩ (.int .i64 0)).setCell ⟨w.heap.size + 1, 6, none⟩ (.int .i64 0)).setCell ⟨w.heap.size + 1, 7, none⟩ (.int .i64 0)).setCell ⟨w.heap.size + 1, 8, none⟩ (.int .i64 0)).setCell ⟨w.heap.size + 1, 9, none⟩ (.int .i64 0)).setCell ⟨w.heap.size + 1, 10, none⟩ (.int .i64 0)).setCell ⟨w.heap.size + 1, 11, none⟩ (.int .i64 0)).setCell ⟨w.heap.size + 1, 12, none⟩ (.int .i64 0)).setCell ⟨w.heap.size + 1, 13, none⟩ (.int .i64 0)).setCell ⟨w.heap.size + 1, 14, none⟩ (.int .i64 0)) = WE at *
  obtain ⟨z0, z1, z2, z3, z4, z5, z6, z7, z8, z9, z10, z11, z12, z13, z14, zf⟩ := BR.fifteen
  exact bodyPost_ret (v := .tuple #[.agg #[.int .i64 0, .int .i64 0, .int .i64 0, .int .i64 0, .int .i64 0, .int .i64 0, .int .i64 0, .int .i64 0, .int .i64 0, .int .i64 0, .int .i64 0, .int .i64 0, .int .i64 0, .int .i64 0, .int .i64 0], .bool false]) (by simp [results, Tryd.results7, go_sem, z0, z1, z2, z3, z4, z5, z6, z7, z8, z9, z10, z11, z12, z13, z14]) rfl ⟨rfl, BE⟩
set_option maxRecDepth 100000 in
set_option maxHeartbeats 8000000 in
theorem replaceI_4 (d l f s o n x c k a t c' k' a' t' old y : Int) (w : World) (h1 : aOkB d l f s o n x c k a t c' k' a' t' = true) (h2 : 1 ≤ old) (h3 : old ≤ 9) (h4 : 1 ≤ y) (h5 : y ≤ 9) (r1 r2 r3 r4 r5 : Int) (e1 : turn1 old y f = r1) (e2 : turn1 old y s = r2) (e3 : turn1 old y x = r3) (e4 : turn1 old y t = r4) (e5 : turn1 old y t' = r5) (hg : aOkB d l r1 r2 o n r3 c k a r4 c' k' a' r5 = false) (hA : AttsLie w) :
    Calls Tryd.prog 7 #[.agg #[.int .i64 d, .int .i64 l, .int .i64 f, .int .i64 s, .int .i64 o, .int .i64 n, .int .i64 x, .int .i64 c, .int .i64 k, .int .i64 a, .int .i64 t, .int .i64 c', .int .i64 k', .int .i64 a', .int .i64 t'], .int .i64 old, .int .i64 y] w (AnsA w 0 0 0 0 0 0 0 0 0 0 0 0 0 0 0 false) := by
  have hT := overL_ok (g := turn1 old y) (by unfold turn1; rw [if_neg (by omega)]) h1
  rw [e1, e2, e3, e4, e5] at hT
  have CV := Lib.hid (fun W (hb : Below w.heap.size w W) => validArms_impl d l f s o n x c k a t c' k' a' t' W true h1 (hA.below hb))
  have CO := Lib.hid (fun W => isT_yes old W h2 h3)
  have CY := Lib.hid (fun W => isT_yes y W h4 h5)
  have CI := Lib.hid (fun W (hb : Below w.heap.size w W) => armsIf_false d l r1 r2 o n r3 c k a r4 c' k' a' r5 W hg (hA.below hb))
  have hL1 := placesL_lt d o (gNoB c k a t) (gNoB c' k' a' t')
  have hL2 := placesL_len d o (gNoB c k a t) (gNoB c' k' a' t')
  have hL3 := placesL_pos d o (gNoB c k a t) (gNoB c' k' a' t')
  have cp := fun (b : Nat) W hW => places_any d l f s o n x c k a t c' k' a' t' b W hW
  clear h1 h2 h3 h4 h5 e1 e2 e3 e4 e5 hg hA
  generalize placesL d o (gNoB c k a t) (gNoB c' k' a' t') = L at *
  obtain ⟨q, hq⟩ : ∃ q, L.length = q := ⟨_, rfl⟩
  unfold Places at cp
  rw [hq] at hL2 hL3 cp
  have CP := Lib.hid cp
  have HL := Lib.hid hq
  have HLT := Lib.hid hL1
  clear cp hL1 hq
  have HT := Lib.hid hT
  clear hT
  have b_P := (BoxF.new w [.int .i64 d, .int .i64 l, .int .i64 f, .int .i64 s, .int .i64 o, .int .i64 n, .int .i64 x, .int .i64 c, .int .i64 k, .int .i64 a, .int .i64 t, .int .i64 c', .int .i64 k', .int .i64 a', .int .i64 t'] 29).alloc (.cells #[.int .i64 0, .int .i64 0, .int .i64 0, .int .i64 0, .int .i64 0, .int .i64 0, .int .i64 0, .int .i64 0, .int .i64 0, .int .i64 0, .int .i64 0, .int .i64 0, .int .i64 0, .int .i64 0, .int .i64 0] 29 (0, 0))
  have b_R := BoxF.new (w.alloc (.cells #[.int .i64 d, .int .i64 l, .int .i64 f, .int .i64 s, .int .i64 o, .int .i64 n, .int .i64 x, .int .i64 c, .int .i64 k, .int .i64 a, .int .i64 t, .int .i64 c', .int .i64 k', .int .i64 a', .int .i64 t'] 29 (0, 0))) [.int .i64 0, .int .i64 0, .int .i64 0, .int .i64 0, .int .i64 0, .int .i64 0, .int .i64 0, .int .i64 0, .int .i64 0, .int .i64 0, .int .i64 0, .int .i64 0, .int .i64 0, .int .i64 0, .int .i64 0] 29
  simp only [World.size_alloc] at b_R
  have bb_ : Below w.heap.size w ((w.alloc (.cells #[.int .i64 d, .int .i64 l, .int .i64 f, .int .i64 s, .int .i64 o, .int .i64 n, .int .i64 x, .int .i64 c, .int .i64 k, .int .i64 a, .int .i64 t, .int .i64 c', .int .i64 k', .int .i64 a', .int .i64 t'] 29 (0, 0))).alloc (.cells #[.int .i64 0, .int .i64 0, .int .i64 0, .int .i64 0, .int .i64 0, .int .i64 0, .int .i64 0, .int .i64 0, .int .i64 0, .int .i64 0, .int .i64 0, .int .i64 0, .int .i64 0, .int .i64 0, .int .i64 0] 29 (0, 0))) := ((Below.refl _ w).alloc (by first | exact Nat.le_refl _ | (simp; done) | (simp; omega)) (.cells #[.int .i64 d, .int .i64 l, .int .i64 f, .int .i64 s, .int .i64 o, .int .i64 n, .int .i64 x, .int .i64 c, .int .i64 k, .int .i64 a, .int .i64 t, .int .i64 c', .int .i64 k', .int .i64 a', .int .i64 t'] 29 (0, 0))).alloc (by first | exact Nat.le_refl _ | (simp; done) | (simp; omega)) (.cells #[.int .i64 0, .int .i64 0, .int .i64 0, .int .i64 0, .int .i64 0, .int .i64 0, .int .i64 0, .int .i64 0, .int .i64 0, .int .i64 0, .int .i64 0, .int .i64 0, .int .i64 0, .int .i64 0, .int .i64 0] 29 (0, 0))
  have XP0 := Lib.hid b_P
  have XR0 := Lib.hid b_R
  have BB0 := Lib.hid bb_
  clear bb_ b_P b_R
  have b_P := XP0.out
  obtain ⟨x0, x1, x2, x3, x4, x5, x6, x7, x8, x9, x10, x11, x12, x13, x14, xf⟩ := b_P.fifteen
  clear b_P
  go_enter Tryd.func7, Tryd.ntmps7
  go_wp2_with fail
  refine (CV.out _ BB0.out).mono ?_
  rintro e w1 ⟨rfl, g1⟩
  clear x0 x1 x2 x3 x4 x5 x6 x7 x8 x9 x10 x11 x12 x13 x14 xf
  have XP1 := Lib.hid (XP0.out.below g1)
  have XR1 := Lib.hid (XR0.out.below g1)
  have BB1 := Lib.hid (BB0.out.trans (g1.mono BB0.out.size))
  clear XP0 XR0 BB0 g1
  go_wp2_with fail
  refine (CO.out _).mono ?_
  rintro e w_ ⟨rfl, rfl⟩
  go_wp2_with fail
  refine (CY.out _).mono ?_
  rintro e w_ ⟨rfl, rfl⟩
  have b_P := XP1.out
  obtain ⟨x0, x1, x2, x3, x4, x5, x6, x7, x8, x9, x10, x11, x12, x13, x14, xf⟩ := b_P.fifteen
  clear b_P
  go_wp2_with fail
  clear x0 x1 x2 x3 x4 x5 x6 x7 x8 x9 x10 x11 x12 x13 x14 xf
  have X0 := BoxF.new w1 [.int .i64 d, .int .i64 l, .int .i64 f, .int .i64 s, .int .i64 o, .int .i64 n, .int .i64 x, .int .i64 c, .int .i64 k, .int .i64 a, .int .i64 t, .int .i64 c', .int .i64 k', .int .i64 a', .int .i64 t'] 60
  have HXD := Lib.hid X0
  have HB := Lib.hid (BB1.out.alloc BB1.out.size (.cells #[.int .i64 d, .int .i64 l, .int .i64 f, .int .i64 s, .int .i64 o, .int .i64 n, .int .i64 x, .int .i64 c, .int .i64 k, .int .i64 a, .int .i64 t, .int .i64 c', .int .i64 k', .int .i64 a', .int .i64 t'] 60 (0, 0)))
  have HR := Lib.hid (XR1.out.alloc (.cells #[.int .i64 d, .int .i64 l, .int .i64 f, .int .i64 s, .int .i64 o, .int .i64 n, .int .i64 x, .int .i64 c, .int .i64 k, .int .i64 a, .int .i64 t, .int .i64 c', .int .i64 k', .int .i64 a', .int .i64 t'] 60 (0, 0)))
  have hR0 := XR1.out.lt
  have hs1 := BB1.out.size
  have hs0 : w.heap.size + 1 < w1.heap.size := hR0
  clear X0 XP1 XR1 BB1
  refine (CP.out _ _ HXD.out).mono ?_
  rintro e w2 ⟨ao, cap, rfl, ho, hnil, g2⟩
  obtain ⟨gp, cpp, hv, hge, hlt⟩ := World.ownsRow.form ho (by omega)
  cases hv
  have HP : Hid (∀ i j, L[i]? = some j → w2.cell? ⟨gp, i, none⟩ = some (.pointer (some ⟨w1.heap.size, j, none⟩))) := Lib.hid (fun i j hj => by
    have hi : i < L.length := (List.getElem?_eq_some_iff.1 hj).1
    have := HL.out
    exact (ho.cellAt i (by omega)).trans (ptrs_at hj))
  clear ho hnil
  obtain ⟨D, hDe⟩ : ∃ D, w1.heap.size = D := ⟨_, rfl⟩
  obtain ⟨R, hRe⟩ : ∃ R, w.heap.size + 1 = R := ⟨_, rfl⟩
  have hgp : D < gp := by simp at hge; omega
  have hRD : R ≠ D := by omega
  have hwR : w.heap.size ≤ R := by omega
  have hwD : w.heap.size ≤ D := by omega
  clear hge hlt hR0 hs0 hs1
  rw [hDe] at HXD HP ⊢
  rw [hRe] at HR ⊢
  have XD : Hid (BoxF w2 D ([d, l, f, s, o, n, x, c, k, a, t, c', k', a', t'].map (Value.int .i64)) 60) := Lib.hid (HXD.out.below g2)
  have XR : Hid (BoxF w2 R [.int .i64 0, .int .i64 0, .int .i64 0, .int .i64 0, .int .i64 0, .int .i64 0, .int .i64 0, .int .i64 0, .int .i64 0, .int .i64 0, .int .i64 0, .int .i64 0, .int .i64 0, .int .i64 0, .int .i64 0] 29) := Lib.hid (HR.out.below g2)
  have B2 := Lib.hid (HB.out.trans (g2.mono HB.out.size))
  clear HXD HR HB g2
  have HX : Hid ([d, l, f, s, o, n, x, c, k, a, t, c', k', a', t'].length = 15) := Lib.hid rfl
  generalize [d, l, f, s, o, n, x, c, k, a, t, c', k', a', t'] = X at *
  go_wp2_with fail
  go_loopw [29] (fun i wr => ∃ r : Nat, r ≤ q ∧ i = .int .i64 r ∧ BoxF wr D ((overL (turn1 old y) (L.take r) X).map (Value.int .i64)) 60 ∧ BoxF wr R [.int .i64 0, .int .i64 0, .int .i64 0, .int .i64 0, .int .i64 0, .int .i64 0, .int .i64 0, .int .i64 0, .int .i64 0, .int .i64 0, .int .i64 0, .int .i64 0, .int .i64 0, .int .i64 0, .int .i64 0] 29 ∧ (∀ i j, L[i]? = some j → wr.cell? ⟨gp, i, none⟩ = some (.pointer (some ⟨D, j, none⟩))) ∧ Below w.heap.size w wr) (fun i _ => q - (intOf i).toNat)
  case atStart => exact ⟨0, by omega, rfl, XD.out, XR.out, HP.out, B2.out⟩
  case round =>
    clear XD XR HP B2
    obtain ⟨r, hk, rfl, hd, hr, hp, hb⟩ := hrel
    by_cases hlt : r < q
    · obtain ⟨j, hj, hm⟩ := atN_of_lt HL.out hlt
      have hj15 := HLT.out j hm
      have c1 := hp r j hj
      have hlen : (overL (turn1 old y) (L.take r) X).length = 15 := (overL_len _ _ _).trans HX.out
      have c2 := (hd.at j).trans (getI (by omega))
      have xf := hd.free j
      have HS := Lib.hid (overL_snoc (turn1 old y) (L.take r) j X)
      rw [← takeN_succ hj] at HS
      have HD := Lib.hid hd
      have HR := Lib.hid hr
      have HP := Lib.hid hp
      have HB := Lib.hid hb
      clear hj hm hd hr hp hb hlen
      generalize overL (turn1 old y) (L.take r) X = Y at *
      have HZ : Hid (Y.set j (Y.getD j 0) = Y) := Lib.hid (set_same Y j)
      generalize Y.getD j 0 = z at *
      by_cases hz : z = old
      · have e0 : (z == old) = true := by rw [beq_iff_eq]; exact hz
        have HS2 : Hid (overL (turn1 old y) (L.take (r + 1)) X = Y.set j y) := Lib.hid (HS.out.trans (by unfold turn1; rw [if_pos hz]))
        clear HS hz
        go_wp2_with fail
        go_roundw
        case rel => exact ⟨r + 1, by omega, by go_num, by rw [HS2.out]; exact (setI Y j _) ▸ HD.out.set j _, HR.out.far j _ (by omega), fun i j' h' => (cset_b _ _ _ _ _ _ (by omega)).trans (HP.out i j' h'), HB.out.setCell (p := ⟨D, j, none⟩) (by show w.heap.size ≤ D; omega) _⟩
        case measure => simp [intOf]; omega
      · have e0 : (z == old) = false := by rw [beq_eq_false_iff_ne]; exact hz
        have HS2 : Hid (overL (turn1 old y) (L.take (r + 1)) X = Y) := Lib.hid (HS.out.trans (by unfold turn1; rw [if_neg hz]; exact HZ.out))
        clear HS hz
        go_wp2_with fail
        go_roundw
        case rel => exact ⟨r + 1, by omega, by go_num, by rw [HS2.out]; exact HD.out, HR.out, HP.out, HB.out⟩
        case measure => simp [intOf]; omega

    · have HK : Hid (L.take r = L) := Lib.hid (List.take_of_length_le (by have := HL.out; omega))
      rw [HK.out, HT.out] at hd
      have hd : BoxF wr D [.int .i64 d, .int .i64 l, .int .i64 r1, .int .i64 r2, .int .i64 o, .int .i64 n, .int .i64 r3, .int .i64 c, .int .i64 k, .int .i64 a, .int .i64 r4, .int .i64 c', .int .i64 k', .int .i64 a', .int .i64 r5] 60 := hd
      obtain ⟨x0, x1, x2, x3, x4, x5, x6, x7, x8, x9, x10, x11, x12, x13, x14, xf⟩ := hd.fifteen
      have HR := Lib.hid hr
      have HB := Lib.hid hb
      clear hd hr hp hb
      go_wp2_with fail
      refine (CI.out _ HB.out).mono ?_
      rintro e w5 ⟨rfl, g5⟩
      have HR5 := Lib.hid (HR.out.below g5)
      have HB5 := Lib.hid (HB.out.trans (g5.mono HB.out.size))
      clear g5 HR HB
      clear x0 x1 x2 x3 x4 x5 x6 x7 x8 x9 x10 x11 x12 x13 x14 xf
      have b_R := HR5.out
      obtain ⟨z0, z1, z2, z3, z4, z5, z6, z7, z8, z9, z10, z11, z12, z13, z14, zf⟩ := b_R.fifteen
      clear b_R
      go_wp2_with fail
      clear z0 z1 z2 z3 z4 z5 z6 z7 z8 z9 z10 z11 z12 z13 z14 zf
      have BR := BoxF.all15 (v0 := .int .i64 0) (v1 := .int .i64 0) (v2 := .int .i64 0) (v3 := .int .i64 0) (v4 := .int .i64 0) (v5 := .int .i64 0) (v6 := .int .i64 0) (v7 := .int .i64 0) (v8 := .int .i64 0) (v9 := .int .i64 0) (v10 := .int .i64 0) (v11 := .int .i64 0) (v12 := .int .i64 0) (v13 := .int .i64 0) (v14 := .int .i64 0) (HR5.out)
      have BE := HB5.out.grown (grown15 w5 R (.int .i64 0) (.int .i64 0) (.int .i64 0) (.int .i64 0) (.int .i64 0) (.int .i64 0) (.int .i64 0) (.int .i64 0) (.int .i64 0) (.int .i64 0) (.int .i64 0) (.int .i64 0) (.int .i64 0) (.int .i64 0) (.int .i64 0)) HB5.out.size (fun q e => by cases e; omega)
      generalize (((((((((((((((w5.setCell ⟨R, 0, none⟩ (.int .i64 0)).setCell ⟨R, 1, none⟩ (.int .i64 0)).setCell ⟨R, 2, none⟩ (.int .i64 0)).setCell ⟨R, 3, none⟩ (.int .i64 0)).setCell ⟨R, 4, none⟩ (.int .i64 0)).setCell ⟨R, 5, none⟩ (.int .i64 0)).setCell ⟨R, 6, none⟩ (.int .i64 0)).setCell ⟨R, 7, none⟩ (.int .i64 0)).setCell ⟨R, 8, none⟩ (.int .i64 0)).setCell ⟨R, 9, none⟩ (.int .i64 0)).setCell ⟨R, 10, none⟩ (.int .i64 0)).setCell ⟨R, 11, none⟩ (.int .i64 0)).setCell ⟨R, 12, none⟩ (.int .i64 0)).setCell ⟨R, 13, none⟩ (.int .i64 0)).setCell ⟨R, 14, none⟩ (.int .i64 0)) = WE at *
      obtain ⟨z0, z1, z2, z3, z4, z5, z6, z7, z8, z9, z10, z11, z12, z13, z14, zf⟩ := BR.fifteen
      exact bodyPost_ret (v := .tuple #[.agg #[.int .i64 0, .int .i64 0, .int .i64 0, .int .i64 0, .int .i64 0, .int .i64 0, .int .i64 0, .int .i64 0, .int .i64 0, .int .i64 0, .int .i64 0, .int .i64 0, .int .i64 0, .int .i64 0, .int .i64 0], .bool false]) (by simp [results, Tryd.results7, go_sem, z0, z1, z2, z3, z4, z5, z6, z7, z8, z9, z10, z11, z12, z13, z14]) rfl ⟨rfl, BE⟩
set_option maxRecDepth 100000 in
set_option maxHeartbeats 8000000 in
theorem replaceI_5 (d l f s o n x c k a t c' k' a' t' old y : Int) (w : World) (h1 : aOkB d l f s o n x c k a t c' k' a' t' = true) (h2 : 1 ≤ old) (h3 : old ≤ 9) (h4 : 1 ≤ y) (h5 : y ≤ 9) (r1 r2 r3 r4 r5 : Int) (e1 : turn1 old y f = r1) (e2 : turn1 old y s = r2) (e3 : turn1 old y x = r3) (e4 : turn1 old y t = r4) (e5 : turn1 old y t' = r5) (hg : aOkB d l r1 r2 o n r3 c k a r4 c' k' a' r5 = true) (hA : AttsLie w) :
    Calls Tryd.prog 7 #[.agg #[.int .i64 d, .int .i64 l, .int .i64 f, .int .i64 s, .int .i64 o, .int .i64 n, .int .i64 x, .int .i64 c, .int .i64 k, .int .i64 a, .int .i64 t, .int .i64 c', .int .i64 k', .int .i64 a', .int .i64 t'], .int .i64 old, .int .i64 y] w (AnsA w d l r1 r2 o n r3 c k a r4 c' k' a' r5 true) := by
  have hT := overL_ok (g := turn1 old y) (by unfold turn1; rw [if_neg (by omega)]) h1
  rw [e1, e2, e3, e4, e5] at hT
  have CV := Lib.hid (fun W (hb : Below w.heap.size w W) => validArms_impl d l f s o n x c k a t c' k' a' t' W true h1 (hA.below hb))
  have CO := Lib.hid (fun W => isT_yes old W h2 h3)
  have CY := Lib.hid (fun W => isT_yes y W h4 h5)
  have CI := Lib.hid (fun W (hb : Below w.heap.size w W) => armsIf_true d l r1 r2 o n r3 c k a r4 c' k' a' r5 W hg (hA.below hb))
  have hL1 := placesL_lt d o (gNoB c k a t) (gNoB c' k' a' t')
  have hL2 := placesL_len d o (gNoB c k a t) (gNoB c' k' a' t')
  have hL3 := placesL_pos d o (gNoB c k a t) (gNoB c' k' a' t')
  have cp := fun (b : Nat) W hW => places_any d l f s o n x c k a t c' k' a' t' b W hW
  clear h1 h2 h3 h4 h5 e1 e2 e3 e4 e5 hg hA
  generalize placesL d o (gNoB c k a t) (gNoB c' k' a' t') = L at *
  obtain ⟨q, hq⟩ : ∃ q, L.length = q := ⟨_, rfl⟩
  unfold Places at cp
  rw [hq] at hL2 hL3 cp
  have CP := Lib.hid cp
  have HL := Lib.hid hq
  have HLT := Lib.hid hL1
  clear cp hL1 hq
  have HT := Lib.hid hT
  clear hT
  have b_P := (BoxF.new w [.int .i64 d, .int .i64 l, .int .i64 f, .int .i64 s, .int .i64 o, .int .i64 n, .int .i64 x, .int .i64 c, .int .i64 k, .int .i64 a, .int .i64 t, .int .i64 c', .int .i64 k', .int .i64 a', .int .i64 t'] 29).alloc (.cells #[.int .i64 0, .int .i64 0, .int .i64 0, .int .i64 0, .int .i64 0, .int .i64 0, .int .i64 0, .int .i64 0, .int .i64 0, .int .i64 0, .int .i64 0, .int .i64 0, .int .i64 0, .int .i64 0, .int .i64 0] 29 (0, 0))
  have b_R := BoxF.new (w.alloc (.cells #[.int .i64 d, .int .i64 l, .int .i64 f, .int .i64 s, .int .i64 o, .int .i64 n, .int .i64 x, .int .i64 c, .int .i64 k, .int .i64 a, .int .i64 t, .int .i64 c', .int .i64 k', .int .i64 a', .int .i64 t'] 29 (0, 0))) [.int .i64 0, .int .i64 0, .int .i64 0, .int .i64 0, .int .i64 0, .int .i64 0, .int .i64 0, .int .i64 0, .int .i64 0, .int .i64 0, .int .i64 0, .int .i64 0, .int .i64 0, .int .i64 0, .int .i64 0] 29
  simp only [World.size_alloc] at b_R
  have bb_ : Below w.heap.size w ((w.alloc (.cells #[.int .i64 d, .int .i64 l, .int .i64 f, .int .i64 s, .int .i64 o, .int .i64 n, .int .i64 x, .int .i64 c, .int .i64 k, .int .i64 a, .int .i64 t, .int .i64 c', .int .i64 k', .int .i64 a', .int .i64 t'] 29 (0, 0))).alloc (.cells #[.int .i64 0, .int .i64 0, .int .i64 0, .int .i64 0, .int .i64 0, .int .i64 0, .int .i64 0, .int .i64 0, .int .i64 0, .int .i64 0, .int .i64 0, .int .i64 0, .int .i64 0, .int .i64 0, .int .i64 0] 29 (0, 0))) := ((Below.refl _ w).alloc (by first | exact Nat.le_refl _ | (simp; done) | (simp; omega)) (.cells #[.int .i64 d, .int .i64 l, .int .i64 f, .int .i64 s, .int .i64 o, .int .i64 n, .int .i64 x, .int .i64 c, .int .i64 k, .int .i64 a, .int .i64 t, .int .i64 c', .int .i64 k', .int .i64 a', .int .i64 t'] 29 (0, 0))).alloc (by first | exact Nat.le_refl _ | (simp; done) | (simp; omega)) (.cells #[.int .i64 0, .int .i64 0, .int .i64 0, .int .i64 0, .int .i64 0, .int .i64 0, .int .i64 0, .int .i64 0, .int .i64 0, .int .i64 0, .int .i64 0, .int .i64 0, .int .i64 0, .int .i64 0, .int .i64 0] 29 (0, 0))
  have XP0 := Lib.hid b_P
  have XR0 := Lib.hid b_R
  have BB0 := Lib.hid bb_
  clear bb_ b_P b_R
  have b_P := XP0.out
  obtain ⟨x0, x1, x2, x3, x4, x5, x6, x7, x8, x9, x10, x11, x12, x13, x14, xf⟩ := b_P.fifteen
  clear b_P
  go_enter Tryd.func7, Tryd.ntmps7
  go_wp2_with fail
  refine (CV.out _ BB0.out).mono ?_
  rintro e w1 ⟨rfl, g1⟩
  clear x0 x1 x2 x3 x4 x5 x6 x7 x8 x9 x10 x11 x12 x13 x14 xf
  have XP1 := Lib.hid (XP0.out.below g1)
  have XR1 := Lib.hid (XR0.out.below g1)
  have BB1 := Lib.hid (BB0.out.trans (g1.mono BB0.out.size))
  clear XP0 XR0 BB0 g1
  go_wp2_with fail
  refine (CO.out _).mono ?_
  rintro e w_ ⟨rfl, rfl⟩
  go_wp2_with fail
  refine (CY.out _).mono ?_
  rintro e w_ ⟨rfl, rfl⟩
  have b_P := XP1.out
  obtain ⟨x0, x1, x2, x3, x4, x5, x6, x7, x8, x9, x10, x11, x12, x13, x14, xf⟩ := b_P.fifteen
  clear b_P
  go_wp2_with fail
  clear x0 x1 x2 x3 x4 x5 x6 x7 x8 x9 x10 x11 x12 x13 x14 xf
  have X0 := BoxF.new w1 [.int .i64 d, .int .i64 l, .int .i64 f, .int .i64 s, .int .i64 o, .int .i64 n, .int .i64 x, .int .i64 c, .int .i64 k, .int .i64 a, .int .i64 t, .int .i64 c', .int .i64 k', .int .i64 a', .int .i64 t'] 60
  have HXD := Lib.hid X0
  have HB := Lib.hid (BB1.out.alloc BB1.out.size (.cells #[.int .i64 d, .int .i64 l, .int .i64 f, .int .i64 s, .int .i64 o, .int .i64 n, .int .i64 x, .int .i64 c, .int .i64 k, .int .i64 a, .int .i64 t, .int .i64 c', .int .i64 k', .int .i64 a', .int .i64 t'] 60 (0, 0)))
  have HR := Lib.hid (XR1.out.alloc (.cells #[.int .i64 d, .int .i64 l, .int .i64 f, .int .i64 s, .int .i64 o, .int .i64 n, .int .i64 x, .int .i64 c, .int .i64 k, .int .i64 a, .int .i64 t, .int .i64 c', .int .i64 k', .int .i64 a', .int .i64 t'] 60 (0, 0)))
  have hR0 := XR1.out.lt
  have hs1 := BB1.out.size
  have hs0 : w.heap.size + 1 < w1.heap.size := hR0
  clear X0 XP1 XR1 BB1
  refine (CP.out _ _ HXD.out).mono ?_
  rintro e w2 ⟨ao, cap, rfl, ho, hnil, g2⟩
  obtain ⟨gp, cpp, hv, hge, hlt⟩ := World.ownsRow.form ho (by omega)
  cases hv
  have HP : Hid (∀ i j, L[i]? = some j → w2.cell? ⟨gp, i, none⟩ = some (.pointer (some ⟨w1.heap.size, j, none⟩))) := Lib.hid (fun i j hj => by
    have hi : i < L.length := (List.getElem?_eq_some_iff.1 hj).1
    have := HL.out
    exact (ho.cellAt i (by omega)).trans (ptrs_at hj))
  clear ho hnil
  obtain ⟨D, hDe⟩ : ∃ D, w1.heap.size = D := ⟨_, rfl⟩
  obtain ⟨R, hRe⟩ : ∃ R, w.heap.size + 1 = R := ⟨_, rfl⟩
  have hgp : D < gp := by simp at hge; omega
  have hRD : R ≠ D := by omega
  have hwR : w.heap.size ≤ R := by omega
  have hwD : w.heap.size ≤ D := by omega
  clear hge hlt hR0 hs0 hs1
  rw [hDe] at HXD HP ⊢
  rw [hRe] at HR ⊢
  have XD : Hid (BoxF w2 D ([d, l, f, s, o, n, x, c, k, a, t, c', k', a', t'].map (Value.int .i64)) 60) := Lib.hid (HXD.out.below g2)
  have XR : Hid (BoxF w2 R [.int .i64 0, .int .i64 0, .int .i64 0, .int .i64 0, .int .i64 0, .int .i64 0, .int .i64 0, .int .i64 0, .int .i64 0, .int .i64 0, .int .i64 0, .int .i64 0, .int .i64 0, .int .i64 0, .int .i64 0] 29) := Lib.hid (HR.out.below g2)
  have B2 := Lib.hid (HB.out.trans (g2.mono HB.out.size))
  clear HXD HR HB g2
  have HX : Hid ([d, l, f, s, o, n, x, c, k, a, t, c', k', a', t'].length = 15) := Lib.hid rfl
  generalize [d, l, f, s, o, n, x, c, k, a, t, c', k', a', t'] = X at *
  go_wp2_with fail
  go_loopw [29] (fun i wr => ∃ r : Nat, r ≤ q ∧ i = .int .i64 r ∧ BoxF wr D ((overL (turn1 old y) (L.take r) X).map (Value.int .i64)) 60 ∧ BoxF wr R [.int .i64 0, .int .i64 0, .int .i64 0, .int .i64 0, .int .i64 0, .int .i64 0, .int .i64 0, .int .i64 0, .int .i64 0, .int .i64 0, .int .i64 0, .int .i64 0, .int .i64 0, .int .i64 0, .int .i64 0] 29 ∧ (∀ i j, L[i]? = some j → wr.cell? ⟨gp, i, none⟩ = some (.pointer (some ⟨D, j, none⟩))) ∧ Below w.heap.size w wr) (fun i _ => q - (intOf i).toNat)
  case atStart => exact ⟨0, by omega, rfl, XD.out, XR.out, HP.out, B2.out⟩
  case round =>
    clear XD XR HP B2
    obtain ⟨r, hk, rfl, hd, hr, hp, hb⟩ := hrel
    by_cases hlt : r < q
    · obtain ⟨j, hj, hm⟩ := atN_of_lt HL.out hlt
      have hj15 := HLT.out j hm
      have c1 := hp r j hj
      have hlen : (overL (turn1 old y) (L.take r) X).length = 15 := (overL_len _ _ _).trans HX.out
      have c2 := (hd.at j).trans (getI (by omega))
      have xf := hd.free j
      have HS := Lib.hid (overL_snoc (turn1 old y) (L.take r) j X)
      rw [← takeN_succ hj] at HS
      have HD := Lib.hid hd
      have HR := Lib.hid hr
      have HP := Lib.hid hp
      have HB := Lib.hid hb
      clear hj hm hd hr hp hb hlen
      generalize overL (turn1 old y) (L.take r) X = Y at *
      have HZ : Hid (Y.set j (Y.getD j 0) = Y) := Lib.hid (set_same Y j)
      generalize Y.getD j 0 = z at *
      by_cases hz : z = old
      · have e0 : (z == old) = true := by rw [beq_iff_eq]; exact hz
        have HS2 : Hid (overL (turn1 old y) (L.take (r + 1)) X = Y.set j y) := Lib.hid (HS.out.trans (by unfold turn1; rw [if_pos hz]))
        clear HS hz
        go_wp2_with fail
        go_roundw
        case rel => exact ⟨r + 1, by omega, by go_num, by rw [HS2.out]; exact (setI Y j _) ▸ HD.out.set j _, HR.out.far j _ (by omega), fun i j' h' => (cset_b _ _ _ _ _ _ (by omega)).trans (HP.out i j' h'), HB.out.setCell (p := ⟨D, j, none⟩) (by show w.heap.size ≤ D; omega) _⟩
        case measure => simp [intOf]; omega
      · have e0 : (z == old) = false := by rw [beq_eq_false_iff_ne]; exact hz
        have HS2 : Hid (overL (turn1 old y) (L.take (r + 1)) X = Y) := Lib.hid (HS.out.trans (by unfold turn1; rw [if_neg hz]; exact HZ.out))
        clear HS hz
        go_wp2_with fail
        go_roundw
        case rel => exact ⟨r + 1, by omega, by go_num, by rw [HS2.out]; exact HD.out, HR.out, HP.out, HB.out⟩
        case measure => simp [intOf]; omega

    · have HK : Hid (L.take r = L) := Lib.hid (List.take_of_length_le (by have := HL.out; omega))
      rw [HK.out, HT.out] at hd
      have hd : BoxF wr D [.int .i64 d, .int .i64 l, .int .i64 r1, .int .i64 r2, .int .i64 o, .int .i64 n, .int .i64 r3, .int .i64 c, .int .i64 k, .int .i64 a, .int .i64 r4, .int .i64 c', .int .i64 k', .int .i64 a', .int .i64 r5] 60 := hd
      obtain ⟨x0, x1, x2, x3, x4, x5, x6, x7, x8, x9, x10, x11, x12, x13, x14, xf⟩ := hd.fifteen
      have HR := Lib.hid hr
      have HB := Lib.hid hb
      clear hd hr hp hb
      go_wp2_with fail
      refine (CI.out _ HB.out).mono ?_
      rintro e w5 ⟨rfl, g5⟩
      have HR5 := Lib.hid (HR.out.below g5)
      have HB5 := Lib.hid (HB.out.trans (g5.mono HB.out.size))
      clear g5 HR HB
      clear x0 x1 x2 x3 x4 x5 x6 x7 x8 x9 x10 x11 x12 x13 x14 xf
      have b_R := HR5.out
      obtain ⟨z0, z1, z2, z3, z4, z5, z6, z7, z8, z9, z10, z11, z12, z13, z14, zf⟩ := b_R.fifteen
      clear b_R
      go_wp2_with fail
      clear z0 z1 z2 z3 z4 z5 z6 z7 z8 z9 z10 z11 z12 z13 z14 zf
      have BR := BoxF.all15 (v0 := .int .i64 d) (v1 := .int .i64 l) (v2 := .int .i64 r1) (v3 := .int .i64 r2) (v4 := .int .i64 o) (v5 := .int .i64 n) (v6 := .int .i64 r3) (v7 := .int .i64 c) (v8 := .int .i64 k) (v9 := .int .i64 a) (v10 := .int .i64 r4) (v11 := .int .i64 c') (v12 := .int .i64 k') (v13 := .int .i64 a') (v14 := .int .i64 r5) (HR5.out)
      have BE := HB5.out.grown (grown15 w5 R (.int .i64 d) (.int .i64 l) (.int .i64 r1) (.int .i64 r2) (.int .i64 o) (.int .i64 n) (.int .i64 r3) (.int .i64 c) (.int .i64 k) (.int .i64 a) (.int .i64 r4) (.int .i64 c') (.int .i64 k') (.int .i64 a') (.int .i64 r5)) HB5.out.size (fun q e => by cases e; omega)
      generalize (((((((((((((((w5.setCell ⟨R, 0, none⟩ (.int .i64 d)).setCell ⟨R, 1, none⟩ (.int .i64 l)).setCell ⟨R, 2, none⟩ (.int .i64 r1)).setCell ⟨R, 3, none⟩ (.int .i64 r2)).setCell ⟨R, 4, none⟩ (.int .i64 o)).setCell ⟨R, 5, none⟩ (.int .i64 n)).setCell ⟨R, 6, none⟩ (.int .i64 r3)).setCell ⟨R, 7, none⟩ (.int .i64 c)).setCell ⟨R, 8, none⟩ (.int .i64 k)).setCell ⟨R, 9, none⟩ (.int .i64 a)).setCell ⟨R, 10, none⟩ (.int .i64 r4)).setCell ⟨R, 11, none⟩ (.int .i64 c')).setCell ⟨R, 12, none⟩ (.int .i64 k')).setCell ⟨R, 13, none⟩ (.int .i64 a')).setCell ⟨R, 14, none⟩ (.int .i64 r5)) = WE at *
      obtain ⟨z0, z1, z2, z3, z4, z5, z6, z7, z8, z9, z10, z11, z12, z13, z14, zf⟩ := BR.fifteen
      exact bodyPost_ret (v := .tuple #[.agg #[.int .i64 d, .int .i64 l, .int .i64 r1, .int .i64 r2, .int .i64 o, .int .i64 n, .int .i64 r3, .int .i64 c, .int .i64 k, .int .i64 a, .int .i64 r4, .int .i64 c', .int .i64 k', .int .i64 a', .int .i64 r5], .bool true]) (by simp [results, Tryd.results7, go_sem, z0, z1, z2, z3, z4, z5, z6, z7, z8, z9, z10, z11, z12, z13, z14]) rfl ⟨rfl, BE⟩
end Go.Proofs.YtpcghkciibbmgaaDoor
