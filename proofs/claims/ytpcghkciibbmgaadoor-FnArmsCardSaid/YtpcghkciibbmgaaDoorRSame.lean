/- Contract: the program's SameShape. -/
import Derived.Test.YtpcghkciibbmgaaDoorRShape
import Derived.Test.YtpcghkciibbmgaaDoorArmsH
namespace Go.Proofs.YtpcghkciibbmgaaDoor
open Go.RowKit

set_option maxRecDepth 100000 in
set_option maxHeartbeats 8000000 in
theorem sameShapeI_1 (d l f s o n x c k a t c' k' a' t' u0 u1 u2 u3 u4 u5 u6 u7 u8 u9 u10 u11 u12 u13 u14 : Int) (w : World) (h1 : aOkB d l f s o n x c k a t c' k' a' t' = false)  (hAt : AttsLie w) :
    Calls Tryd.prog 13 #[.agg #[.int .i64 d, .int .i64 l, .int .i64 f, .int .i64 s, .int .i64 o, .int .i64 n, .int .i64 x, .int .i64 c, .int .i64 k, .int .i64 a, .int .i64 t, .int .i64 c', .int .i64 k', .int .i64 a', .int .i64 t'], .agg #[.int .i64 u0, .int .i64 u1, .int .i64 u2, .int .i64 u3, .int .i64 u4, .int .i64 u5, .int .i64 u6, .int .i64 u7, .int .i64 u8, .int .i64 u9, .int .i64 u10, .int .i64 u11, .int .i64 u12, .int .i64 u13, .int .i64 u14]] w fun e w' => e = .returned (.tuple #[.bool (false), .bool false]) ∧ Below w.heap.size w w' := by
  have C1 := Lib.hid (fun W (hb : Below w.heap.size w W) => validArms_impl d l f s o n x c k a t c' k' a' t' W false h1 (hAt.below hb))
  have bx := (BoxF.new w [.int .i64 d, .int .i64 l, .int .i64 f, .int .i64 s, .int .i64 o, .int .i64 n, .int .i64 x, .int .i64 c, .int .i64 k, .int .i64 a, .int .i64 t, .int .i64 c', .int .i64 k', .int .i64 a', .int .i64 t'] 29).alloc (.cells #[.int .i64 u0, .int .i64 u1, .int .i64 u2, .int .i64 u3, .int .i64 u4, .int .i64 u5, .int .i64 u6, .int .i64 u7, .int .i64 u8, .int .i64 u9, .int .i64 u10, .int .i64 u11, .int .i64 u12, .int .i64 u13, .int .i64 u14] 29 (0, 0))
  have by_ := BoxF.new (w.alloc (.cells #[.int .i64 d, .int .i64 l, .int .i64 f, .int .i64 s, .int .i64 o, .int .i64 n, .int .i64 x, .int .i64 c, .int .i64 k, .int .i64 a, .int .i64 t, .int .i64 c', .int .i64 k', .int .i64 a', .int .i64 t'] 29 (0, 0))) [.int .i64 u0, .int .i64 u1, .int .i64 u2, .int .i64 u3, .int .i64 u4, .int .i64 u5, .int .i64 u6, .int .i64 u7, .int .i64 u8, .int .i64 u9, .int .i64 u10, .int .i64 u11, .int .i64 u12, .int .i64 u13, .int .i64 u14] 29
  simp only [World.size_alloc] at by_
  have bb : Below w.heap.size w ((w.alloc (.cells #[.int .i64 d, .int .i64 l, .int .i64 f, .int .i64 s, .int .i64 o, .int .i64 n, .int .i64 x, .int .i64 c, .int .i64 k, .int .i64 a, .int .i64 t, .int .i64 c', .int .i64 k', .int .i64 a', .int .i64 t'] 29 (0, 0))).alloc (.cells #[.int .i64 u0, .int .i64 u1, .int .i64 u2, .int .i64 u3, .int .i64 u4, .int .i64 u5, .int .i64 u6, .int .i64 u7, .int .i64 u8, .int .i64 u9, .int .i64 u10, .int .i64 u11, .int .i64 u12, .int .i64 u13, .int .i64 u14] 29 (0, 0))) := ((Below.refl _ w).alloc (Nat.le_refl _) _).alloc (by simp) _
  have BX := Lib.hid bx
  have BY := Lib.hid by_
  have BB := Lib.hid bb
  clear bb by_
  obtain ⟨x0, x1, x2, x3, x4, x5, x6, x7, x8, x9, x10, x11, x12, x13, x14, xf⟩ := bx.fifteen
  clear h1 hAt
  go_enter Tryd.func13, Tryd.ntmps13
  go_wp2_with fail
  refine (C1.out _ BB.out).mono ?_
  rintro e w1 ⟨rfl, g1⟩
  clear bx x0 x1 x2 x3 x4 x5 x6 x7 x8 x9 x10 x11 x12 x13 x14 xf
  have BX1 := Lib.hid (BX.out.below g1)
  have BY1 := Lib.hid (BY.out.below g1)
  have BB1 := Lib.hid (BB.out.trans (g1.mono BB.out.size))
  clear g1 BX BY BB
  go_wp2_with fail
  go_ret2
  exact ⟨rfl, BB1.out⟩
set_option maxRecDepth 100000 in
set_option maxHeartbeats 8000000 in
theorem sameShapeI_2 (d l f s o n x c k a t c' k' a' t' u0 u1 u2 u3 u4 u5 u6 u7 u8 u9 u10 u11 u12 u13 u14 : Int) (w : World) (h1 : aOkB d l f s o n x c k a t c' k' a' t' = true) (h2 : aOkB u0 u1 u2 u3 u4 u5 u6 u7 u8 u9 u10 u11 u12 u13 u14 = false) (hAt : AttsLie w) :
    Calls Tryd.prog 13 #[.agg #[.int .i64 d, .int .i64 l, .int .i64 f, .int .i64 s, .int .i64 o, .int .i64 n, .int .i64 x, .int .i64 c, .int .i64 k, .int .i64 a, .int .i64 t, .int .i64 c', .int .i64 k', .int .i64 a', .int .i64 t'], .agg #[.int .i64 u0, .int .i64 u1, .int .i64 u2, .int .i64 u3, .int .i64 u4, .int .i64 u5, .int .i64 u6, .int .i64 u7, .int .i64 u8, .int .i64 u9, .int .i64 u10, .int .i64 u11, .int .i64 u12, .int .i64 u13, .int .i64 u14]] w fun e w' => e = .returned (.tuple #[.bool (false), .bool false]) ∧ Below w.heap.size w w' := by
  have C1 := Lib.hid (fun W (hb : Below w.heap.size w W) => validArms_impl d l f s o n x c k a t c' k' a' t' W true h1 (hAt.below hb))
  have C2 := Lib.hid (fun W (hb : Below w.heap.size w W) => validArms_impl u0 u1 u2 u3 u4 u5 u6 u7 u8 u9 u10 u11 u12 u13 u14 W false h2 (hAt.below hb))
  have bx := (BoxF.new w [.int .i64 d, .int .i64 l, .int .i64 f, .int .i64 s, .int .i64 o, .int .i64 n, .int .i64 x, .int .i64 c, .int .i64 k, .int .i64 a, .int .i64 t, .int .i64 c', .int .i64 k', .int .i64 a', .int .i64 t'] 29).alloc (.cells #[.int .i64 u0, .int .i64 u1, .int .i64 u2, .int .i64 u3, .int .i64 u4, .int .i64 u5, .int .i64 u6, .int .i64 u7, .int .i64 u8, .int .i64 u9, .int .i64 u10, .int .i64 u11, .int .i64 u12, .int .i64 u13, .int .i64 u14] 29 (0, 0))
  have by_ := BoxF.new (w.alloc (.cells #[.int .i64 d, .int .i64 l, .int .i64 f, .int .i64 s, .int .i64 o, .int .i64 n, .int .i64 x, .int .i64 c, .int .i64 k, .int .i64 a, .int .i64 t, .int .i64 c', .int .i64 k', .int .i64 a', .int .i64 t'] 29 (0, 0))) [.int .i64 u0, .int .i64 u1, .int .i64 u2, .int .i64 u3, .int .i64 u4, .int .i64 u5, .int .i64 u6, .int .i64 u7, .int .i64 u8, .int .i64 u9, .int .i64 u10, .int .i64 u11, .int .i64 u12, .int .i64 u13, .int .i64 u14] 29
  simp only [World.size_alloc] at by_
  have bb : Below w.heap.size w ((w.alloc (.cells #[.int .i64 d, .int .i64 l, .int .i64 f, .int .i64 s, .int .i64 o, .int .i64 n, .int .i64 x, .int .i64 c, .int .i64 k, .int .i64 a, .int .i64 t, .int .i64 c', .int .i64 k', .int .i64 a', .int .i64 t'] 29 (0, 0))).alloc (.cells #[.int .i64 u0, .int .i64 u1, .int .i64 u2, .int .i64 u3, .int .i64 u4, .int .i64 u5, .int .i64 u6, .int .i64 u7, .int .i64 u8, .int .i64 u9, .int .i64 u10, .int .i64 u11, .int .i64 u12, .int .i64 u13, .int .i64 u14] 29 (0, 0))) := ((Below.refl _ w).alloc (Nat.le_refl _) _).alloc (by simp) _
  have BX := Lib.hid bx
  have BY := Lib.hid by_
  have BB := Lib.hid bb
  clear bb by_
  obtain ⟨x0, x1, x2, x3, x4, x5, x6, x7, x8, x9, x10, x11, x12, x13, x14, xf⟩ := bx.fifteen
  clear h1 h2 hAt
  go_enter Tryd.func13, Tryd.ntmps13
  go_wp2_with fail
  refine (C1.out _ BB.out).mono ?_
  rintro e w1 ⟨rfl, g1⟩
  clear bx x0 x1 x2 x3 x4 x5 x6 x7 x8 x9 x10 x11 x12 x13 x14 xf
  have BX1 := Lib.hid (BX.out.below g1)
  have BY1 := Lib.hid (BY.out.below g1)
  have BB1 := Lib.hid (BB.out.trans (g1.mono BB.out.size))
  clear g1 BX BY BB
  have bv := BY1.out
  obtain ⟨y0, y1, y2, y3, y4, y5, y6, y7, y8, y9, y10, y11, y12, y13, y14, yf⟩ := bv.fifteen
  go_wp2_with fail
  refine (C2.out _ BB1.out).mono ?_
  rintro e w2 ⟨rfl, g1⟩
  clear bv y0 y1 y2 y3 y4 y5 y6 y7 y8 y9 y10 y11 y12 y13 y14 yf
  have BX2 := Lib.hid (BX1.out.below g1)
  have BY2 := Lib.hid (BY1.out.below g1)
  have BB2 := Lib.hid (BB1.out.trans (g1.mono BB1.out.size))
  clear g1 BX1 BY1 BB1
  go_wp2_with fail
  go_ret2
  exact ⟨rfl, BB2.out⟩
set_option maxRecDepth 100000 in
set_option maxHeartbeats 8000000 in
theorem sameShapeI_3 (d l f s o n x c k a t c' k' a' t' u0 u1 u2 u3 u4 u5 u6 u7 u8 u9 u10 u11 u12 u13 u14 : Int) (w : World) (h1 : aOkB d l f s o n x c k a t c' k' a' t' = true) (h2 : aOkB u0 u1 u2 u3 u4 u5 u6 u7 u8 u9 u10 u11 u12 u13 u14 = true) (hAt : AttsLie w) :
    Calls Tryd.prog 13 #[.agg #[.int .i64 d, .int .i64 l, .int .i64 f, .int .i64 s, .int .i64 o, .int .i64 n, .int .i64 x, .int .i64 c, .int .i64 k, .int .i64 a, .int .i64 t, .int .i64 c', .int .i64 k', .int .i64 a', .int .i64 t'], .agg #[.int .i64 u0, .int .i64 u1, .int .i64 u2, .int .i64 u3, .int .i64 u4, .int .i64 u5, .int .i64 u6, .int .i64 u7, .int .i64 u8, .int .i64 u9, .int .i64 u10, .int .i64 u11, .int .i64 u12, .int .i64 u13, .int .i64 u14]] w fun e w' => e = .returned (.tuple #[.bool (shapeB d l f s o n x c k a t c' k' a' t' u0 u1 u2 u3 u4 u5 u6 u7 u8 u9 u10 u11 u12 u13 u14), .bool true]) ∧ Below w.heap.size w w' := by
  have C1 := Lib.hid (fun W (hb : Below w.heap.size w W) => validArms_impl d l f s o n x c k a t c' k' a' t' W true h1 (hAt.below hb))
  have C2 := Lib.hid (fun W (hb : Below w.heap.size w W) => validArms_impl u0 u1 u2 u3 u4 u5 u6 u7 u8 u9 u10 u11 u12 u13 u14 W true h2 (hAt.below hb))
  have SA := Lib.hid (fun W => shapeOf_impl d l f s o n x c k a t c' k' a' t' W h1)
  have SB := Lib.hid (fun W => shapeOf_impl u0 u1 u2 u3 u4 u5 u6 u7 u8 u9 u10 u11 u12 u13 u14 W h2)
  have qe0 := fun W => eqArms_run d l 0 0 o n 0 c k a 0 c' k' a' 0 u0 u1 0 0 u4 u5 0 u7 u8 u9 0 u11 u12 u13 0 W
  obtain ⟨r, hr⟩ : ∃ r, shapeB d l f s o n x c k a t c' k' a' t' u0 u1 u2 u3 u4 u5 u6 u7 u8 u9 u10 u11 u12 u13 u14 = r := ⟨_, rfl⟩
  rw [hr]
  unfold shapeB at hr
  have qe1 : ∀ W, (binOp .eql 29 (.agg #[.int .i64 d, .int .i64 l, .int .i64 0, .int .i64 0, .int .i64 o, .int .i64 n, .int .i64 0, .int .i64 c, .int .i64 k, .int .i64 a, .int .i64 0, .int .i64 c', .int .i64 k', .int .i64 a', .int .i64 0]) (.agg #[.int .i64 u0, .int .i64 u1, .int .i64 0, .int .i64 0, .int .i64 u4, .int .i64 u5, .int .i64 0, .int .i64 u7, .int .i64 u8, .int .i64 u9, .int .i64 0, .int .i64 u11, .int .i64 u12, .int .i64 u13, .int .i64 0])).run Tryd.prog W = .ok (.bool r) W := fun W => (qe0 W).trans (by rw [hr])
  have QE := Lib.hid qe1
  clear qe0 qe1 hr
  have bx := (BoxF.new w [.int .i64 d, .int .i64 l, .int .i64 f, .int .i64 s, .int .i64 o, .int .i64 n, .int .i64 x, .int .i64 c, .int .i64 k, .int .i64 a, .int .i64 t, .int .i64 c', .int .i64 k', .int .i64 a', .int .i64 t'] 29).alloc (.cells #[.int .i64 u0, .int .i64 u1, .int .i64 u2, .int .i64 u3, .int .i64 u4, .int .i64 u5, .int .i64 u6, .int .i64 u7, .int .i64 u8, .int .i64 u9, .int .i64 u10, .int .i64 u11, .int .i64 u12, .int .i64 u13, .int .i64 u14] 29 (0, 0))
  have by_ := BoxF.new (w.alloc (.cells #[.int .i64 d, .int .i64 l, .int .i64 f, .int .i64 s, .int .i64 o, .int .i64 n, .int .i64 x, .int .i64 c, .int .i64 k, .int .i64 a, .int .i64 t, .int .i64 c', .int .i64 k', .int .i64 a', .int .i64 t'] 29 (0, 0))) [.int .i64 u0, .int .i64 u1, .int .i64 u2, .int .i64 u3, .int .i64 u4, .int .i64 u5, .int .i64 u6, .int .i64 u7, .int .i64 u8, .int .i64 u9, .int .i64 u10, .int .i64 u11, .int .i64 u12, .int .i64 u13, .int .i64 u14] 29
  simp only [World.size_alloc] at by_
  have bb : Below w.heap.size w ((w.alloc (.cells #[.int .i64 d, .int .i64 l, .int .i64 f, .int .i64 s, .int .i64 o, .int .i64 n, .int .i64 x, .int .i64 c, .int .i64 k, .int .i64 a, .int .i64 t, .int .i64 c', .int .i64 k', .int .i64 a', .int .i64 t'] 29 (0, 0))).alloc (.cells #[.int .i64 u0, .int .i64 u1, .int .i64 u2, .int .i64 u3, .int .i64 u4, .int .i64 u5, .int .i64 u6, .int .i64 u7, .int .i64 u8, .int .i64 u9, .int .i64 u10, .int .i64 u11, .int .i64 u12, .int .i64 u13, .int .i64 u14] 29 (0, 0))) := ((Below.refl _ w).alloc (Nat.le_refl _) _).alloc (by simp) _
  have BX := Lib.hid bx
  have BY := Lib.hid by_
  have BB := Lib.hid bb
  clear bb by_
  obtain ⟨x0, x1, x2, x3, x4, x5, x6, x7, x8, x9, x10, x11, x12, x13, x14, xf⟩ := bx.fifteen
  clear h1 h2 hAt
  go_enter Tryd.func13, Tryd.ntmps13
  go_wp2_with fail
  refine (C1.out _ BB.out).mono ?_
  rintro e w1 ⟨rfl, g1⟩
  clear bx x0 x1 x2 x3 x4 x5 x6 x7 x8 x9 x10 x11 x12 x13 x14 xf
  have BX1 := Lib.hid (BX.out.below g1)
  have BY1 := Lib.hid (BY.out.below g1)
  have BB1 := Lib.hid (BB.out.trans (g1.mono BB.out.size))
  clear g1 BX BY BB
  have bv := BY1.out
  obtain ⟨y0, y1, y2, y3, y4, y5, y6, y7, y8, y9, y10, y11, y12, y13, y14, yf⟩ := bv.fifteen
  go_wp2_with fail
  refine (C2.out _ BB1.out).mono ?_
  rintro e w2 ⟨rfl, g1⟩
  clear bv y0 y1 y2 y3 y4 y5 y6 y7 y8 y9 y10 y11 y12 y13 y14 yf
  have BX2 := Lib.hid (BX1.out.below g1)
  have BY2 := Lib.hid (BY1.out.below g1)
  have BB2 := Lib.hid (BB1.out.trans (g1.mono BB1.out.size))
  clear g1 BX1 BY1 BB1
  have bx := BX2.out
  obtain ⟨x0, x1, x2, x3, x4, x5, x6, x7, x8, x9, x10, x11, x12, x13, x14, xf⟩ := bx.fifteen
  have bv := BY2.out
  obtain ⟨y0, y1, y2, y3, y4, y5, y6, y7, y8, y9, y10, y11, y12, y13, y14, yf⟩ := bv.fifteen
  have qe := QE.out
  go_wp2_with fail
  go_region_with (first
    | (go_at_call 39; (with_reducible refine (SA.out _).mono ?_); rintro e w3 ⟨rfl, g1⟩; have hA : Below w2.heap.size w2 w3 := ⟨g1.os, g1.tape, g1.output, g1.size, g1.block⟩; have bp := BY2.out.below hA; obtain ⟨p0, p1, p2, p3, p4, p5, p6, p7, p8, p9, p10, p11, p12, p13, p14, pf⟩ := bp.fifteen; have HA3 := Lib.hid (BB2.out.trans (hA.mono BB2.out.size)); clear hA g1 bp)
    | (go_at_call 39; (with_reducible refine (SB.out _).mono ?_); rintro e w4 ⟨rfl, g1⟩; have hB : Below w3.heap.size w3 w4 := ⟨g1.os, g1.tape, g1.output, g1.size, g1.block⟩; have HA4 := Lib.hid (HA3.out.trans (hB.mono HA3.out.size)); clear hB g1))
  all_goals
    go_wp2_with fail
    go_ret2
    exact ⟨rfl, HA4.out⟩
end Go.Proofs.YtpcghkciibbmgaaDoor
