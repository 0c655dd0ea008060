/- Contract: the program's isSimpler. -/
import Derived.Test.YtapjiffililmgaaDoorRArmsV
import Derived.Test.YtapjiffililmgaaDoorArmBest
namespace Go.Proofs.YtapjiffililmgaaDoor
open Go.RowKit

set_option maxRecDepth 100000 in
set_option maxHeartbeats 8000000 in
theorem isSimpler_1 (A B : Arm) (w : World) (hA : A.ok = true) (hB : B.ok = true) (he : A.lay = B.lay) (hAt : AttsLie w) :
    Calls Tryd.prog 68 #[.agg #[.int .i64 A.d, .int .i64 A.l, .int .i64 A.f, .int .i64 A.s, .int .i64 A.o, .int .i64 A.n, .int .i64 A.x, .int .i64 A.c, .int .i64 A.k, .int .i64 A.a, .int .i64 A.t, .int .i64 A.c', .int .i64 A.k', .int .i64 A.a', .int .i64 A.t'], .agg #[.int .i64 B.d, .int .i64 B.l, .int .i64 B.f, .int .i64 B.s, .int .i64 B.o, .int .i64 B.n, .int .i64 B.x, .int .i64 B.c, .int .i64 B.k, .int .i64 B.a, .int .i64 B.t, .int .i64 B.c', .int .i64 B.k', .int .i64 B.a', .int .i64 B.t']] w fun e w' => e = .returned (.bool (A.less B)) ∧ Below w.heap.size w w' := by
  have cl1 := fun W (hb : Below w.heap.size w W) => layerCount_impl A.d A.l A.f A.s A.o A.n A.x A.c A.k A.a A.t A.c' A.k' A.a' A.t' W hA (hAt.below hb)
  have cl2 := fun W (hb : Below w.heap.size w W) => layerCount_impl B.d B.l B.f B.s B.o B.n B.x B.c B.k B.a B.t B.c' B.k' B.a' B.t' W hB (hAt.below hb)
  have cc1 := fun W (hb : Below w.heap.size w W) => chargeTotal_impl A.d A.l A.f A.s A.o A.n A.x A.c A.k A.a A.t A.c' A.k' A.a' A.t' W hA (hAt.below hb)
  have cc2 := fun W (hb : Below w.heap.size w W) => chargeTotal_impl B.d B.l B.f B.s B.o B.n B.x B.c B.k B.a B.t B.c' B.k' B.a' B.t' W hB (hAt.below hb)
  obtain ⟨r, hr⟩ : ∃ r, A.less B = r := ⟨_, rfl⟩
  rw [hr]
  unfold Arm.less at hr
  rw [if_pos he] at hr
  unfold Arm.chg at hr
  unfold Arm.lay at he
  generalize layN A.o (gNoB A.c A.k A.a A.t) (gNoB A.c' A.k' A.a' A.t') = y1 at *
  generalize layN B.o (gNoB B.c B.k B.a B.t) (gNoB B.c' B.k' B.a' B.t') = y2 at *
  have e0 : (y1 != y2) = false := by rw [he]; simp
  have C1 := Lib.hid cl1
  have C2 := Lib.hid cl2
  have C3 := Lib.hid cc1
  have C4 := Lib.hid cc2
  clear cl1 cl2 cc1 cc2 hA hB hAt
  have b_P := (BoxF.new w [.int .i64 A.d, .int .i64 A.l, .int .i64 A.f, .int .i64 A.s, .int .i64 A.o, .int .i64 A.n, .int .i64 A.x, .int .i64 A.c, .int .i64 A.k, .int .i64 A.a, .int .i64 A.t, .int .i64 A.c', .int .i64 A.k', .int .i64 A.a', .int .i64 A.t'] 29).alloc (.cells #[.int .i64 B.d, .int .i64 B.l, .int .i64 B.f, .int .i64 B.s, .int .i64 B.o, .int .i64 B.n, .int .i64 B.x, .int .i64 B.c, .int .i64 B.k, .int .i64 B.a, .int .i64 B.t, .int .i64 B.c', .int .i64 B.k', .int .i64 B.a', .int .i64 B.t'] 29 (0, 0))
  have b_Q := BoxF.new (w.alloc (.cells #[.int .i64 A.d, .int .i64 A.l, .int .i64 A.f, .int .i64 A.s, .int .i64 A.o, .int .i64 A.n, .int .i64 A.x, .int .i64 A.c, .int .i64 A.k, .int .i64 A.a, .int .i64 A.t, .int .i64 A.c', .int .i64 A.k', .int .i64 A.a', .int .i64 A.t'] 29 (0, 0))) [.int .i64 B.d, .int .i64 B.l, .int .i64 B.f, .int .i64 B.s, .int .i64 B.o, .int .i64 B.n, .int .i64 B.x, .int .i64 B.c, .int .i64 B.k, .int .i64 B.a, .int .i64 B.t, .int .i64 B.c', .int .i64 B.k', .int .i64 B.a', .int .i64 B.t'] 29
  simp only [World.size_alloc] at b_Q
  have bb_ : Below w.heap.size w ((w.alloc (.cells #[.int .i64 A.d, .int .i64 A.l, .int .i64 A.f, .int .i64 A.s, .int .i64 A.o, .int .i64 A.n, .int .i64 A.x, .int .i64 A.c, .int .i64 A.k, .int .i64 A.a, .int .i64 A.t, .int .i64 A.c', .int .i64 A.k', .int .i64 A.a', .int .i64 A.t'] 29 (0, 0))).alloc (.cells #[.int .i64 B.d, .int .i64 B.l, .int .i64 B.f, .int .i64 B.s, .int .i64 B.o, .int .i64 B.n, .int .i64 B.x, .int .i64 B.c, .int .i64 B.k, .int .i64 B.a, .int .i64 B.t, .int .i64 B.c', .int .i64 B.k', .int .i64 B.a', .int .i64 B.t'] 29 (0, 0))) := ((Below.refl _ w).alloc (by first | exact Nat.le_refl _ | (simp; done) | (simp; omega)) (.cells #[.int .i64 A.d, .int .i64 A.l, .int .i64 A.f, .int .i64 A.s, .int .i64 A.o, .int .i64 A.n, .int .i64 A.x, .int .i64 A.c, .int .i64 A.k, .int .i64 A.a, .int .i64 A.t, .int .i64 A.c', .int .i64 A.k', .int .i64 A.a', .int .i64 A.t'] 29 (0, 0))).alloc (by first | exact Nat.le_refl _ | (simp; done) | (simp; omega)) (.cells #[.int .i64 B.d, .int .i64 B.l, .int .i64 B.f, .int .i64 B.s, .int .i64 B.o, .int .i64 B.n, .int .i64 B.x, .int .i64 B.c, .int .i64 B.k, .int .i64 B.a, .int .i64 B.t, .int .i64 B.c', .int .i64 B.k', .int .i64 B.a', .int .i64 B.t'] 29 (0, 0))
  have XP0 := Lib.hid b_P
  have XQ0 := Lib.hid b_Q
  have BB0 := Lib.hid bb_
  clear bb_ b_P b_Q
  have b_P := XP0.out
  obtain ⟨x0, x1, x2, x3, x4, x5, x6, x7, x8, x9, x10, x11, x12, x13, x14, xf⟩ := b_P.fifteen
  clear b_P
  go_enter Tryd.func68, Tryd.ntmps68
  go_wp2_with fail
  refine (C1.out _ BB0.out).mono ?_
  rintro e w1 ⟨rfl, g1⟩
  clear x0 x1 x2 x3 x4 x5 x6 x7 x8 x9 x10 x11 x12 x13 x14 xf
  have XP1 := Lib.hid (XP0.out.below g1)
  have XQ1 := Lib.hid (XQ0.out.below g1)
  have BB1 := Lib.hid (BB0.out.trans (g1.mono BB0.out.size))
  clear XP0 XQ0 BB0 g1
  have b_Q := XQ1.out
  obtain ⟨y0, y1, y2, y3, y4, y5, y6, y7, y8, y9, y10, y11, y12, y13, y14, yf⟩ := b_Q.fifteen
  clear b_Q
  go_wp2_with fail
  refine (C2.out _ BB1.out).mono ?_
  rintro e w2 ⟨rfl, g1⟩
  clear y0 y1 y2 y3 y4 y5 y6 y7 y8 y9 y10 y11 y12 y13 y14 yf
  have XP2 := Lib.hid (XP1.out.below g1)
  have XQ2 := Lib.hid (XQ1.out.below g1)
  have BB2 := Lib.hid (BB1.out.trans (g1.mono BB1.out.size))
  clear XP1 XQ1 BB1 g1
  have b_P := XP2.out
  obtain ⟨x0, x1, x2, x3, x4, x5, x6, x7, x8, x9, x10, x11, x12, x13, x14, xf⟩ := b_P.fifteen
  clear b_P
  go_wp2_with fail
  refine (C3.out _ BB2.out).mono ?_
  rintro e w3 ⟨rfl, g1⟩
  clear x0 x1 x2 x3 x4 x5 x6 x7 x8 x9 x10 x11 x12 x13 x14 xf
  have XP3 := Lib.hid (XP2.out.below g1)
  have XQ3 := Lib.hid (XQ2.out.below g1)
  have BB3 := Lib.hid (BB2.out.trans (g1.mono BB2.out.size))
  clear XP2 XQ2 BB2 g1
  have b_Q := XQ3.out
  obtain ⟨y0, y1, y2, y3, y4, y5, y6, y7, y8, y9, y10, y11, y12, y13, y14, yf⟩ := b_Q.fifteen
  clear b_Q
  go_wp2_with fail
  refine (C4.out _ BB3.out).mono ?_
  rintro e w4 ⟨rfl, g1⟩
  clear y0 y1 y2 y3 y4 y5 y6 y7 y8 y9 y10 y11 y12 y13 y14 yf
  have XP4 := Lib.hid (XP3.out.below g1)
  have XQ4 := Lib.hid (XQ3.out.below g1)
  have BB4 := Lib.hid (BB3.out.trans (g1.mono BB3.out.size))
  clear XP3 XQ3 BB3 g1
  go_wp2_with fail
  go_ret
  exact ⟨by first | rfl | (rw [hr]; done) | (rw [← hr]; done) | (subst hr; simp), BB4.out⟩
set_option maxRecDepth 100000 in
set_option maxHeartbeats 8000000 in
theorem isSimpler_2 (A B : Arm) (w : World) (hA : A.ok = true) (hB : B.ok = true) (he : A.lay ≠ B.lay) (hAt : AttsLie w) :
    Calls Tryd.prog 68 #[.agg #[.int .i64 A.d, .int .i64 A.l, .int .i64 A.f, .int .i64 A.s, .int .i64 A.o, .int .i64 A.n, .int .i64 A.x, .int .i64 A.c, .int .i64 A.k, .int .i64 A.a, .int .i64 A.t, .int .i64 A.c', .int .i64 A.k', .int .i64 A.a', .int .i64 A.t'], .agg #[.int .i64 B.d, .int .i64 B.l, .int .i64 B.f, .int .i64 B.s, .int .i64 B.o, .int .i64 B.n, .int .i64 B.x, .int .i64 B.c, .int .i64 B.k, .int .i64 B.a, .int .i64 B.t, .int .i64 B.c', .int .i64 B.k', .int .i64 B.a', .int .i64 B.t']] w fun e w' => e = .returned (.bool (A.less B)) ∧ Below w.heap.size w w' := by
  have cl1 := fun W (hb : Below w.heap.size w W) => layerCount_impl A.d A.l A.f A.s A.o A.n A.x A.c A.k A.a A.t A.c' A.k' A.a' A.t' W hA (hAt.below hb)
  have cl2 := fun W (hb : Below w.heap.size w W) => layerCount_impl B.d B.l B.f B.s B.o B.n B.x B.c B.k B.a B.t B.c' B.k' B.a' B.t' W hB (hAt.below hb)
  have cc1 := fun W (hb : Below w.heap.size w W) => chargeTotal_impl A.d A.l A.f A.s A.o A.n A.x A.c A.k A.a A.t A.c' A.k' A.a' A.t' W hA (hAt.below hb)
  have cc2 := fun W (hb : Below w.heap.size w W) => chargeTotal_impl B.d B.l B.f B.s B.o B.n B.x B.c B.k B.a B.t B.c' B.k' B.a' B.t' W hB (hAt.below hb)
  obtain ⟨r, hr⟩ : ∃ r, A.less B = r := ⟨_, rfl⟩
  rw [hr]
  unfold Arm.less at hr
  rw [if_neg he] at hr
  unfold Arm.lay at hr
  unfold Arm.lay at he
  generalize layN A.o (gNoB A.c A.k A.a A.t) (gNoB A.c' A.k' A.a' A.t') = y1 at *
  generalize layN B.o (gNoB B.c B.k B.a B.t) (gNoB B.c' B.k' B.a' B.t') = y2 at *
  have e0 : (y1 != y2) = true := by simpa using he
  have C1 := Lib.hid cl1
  have C2 := Lib.hid cl2
  have C3 := Lib.hid cc1
  have C4 := Lib.hid cc2
  clear cl1 cl2 cc1 cc2 hA hB hAt
  have b_P := (BoxF.new w [.int .i64 A.d, .int .i64 A.l, .int .i64 A.f, .int .i64 A.s, .int .i64 A.o, .int .i64 A.n, .int .i64 A.x, .int .i64 A.c, .int .i64 A.k, .int .i64 A.a, .int .i64 A.t, .int .i64 A.c', .int .i64 A.k', .int .i64 A.a', .int .i64 A.t'] 29).alloc (.cells #[.int .i64 B.d, .int .i64 B.l, .int .i64 B.f, .int .i64 B.s, .int .i64 B.o, .int .i64 B.n, .int .i64 B.x, .int .i64 B.c, .int .i64 B.k, .int .i64 B.a, .int .i64 B.t, .int .i64 B.c', .int .i64 B.k', .int .i64 B.a', .int .i64 B.t'] 29 (0, 0))
  have b_Q := BoxF.new (w.alloc (.cells #[.int .i64 A.d, .int .i64 A.l, .int .i64 A.f, .int .i64 A.s, .int .i64 A.o, .int .i64 A.n, .int .i64 A.x, .int .i64 A.c, .int .i64 A.k, .int .i64 A.a, .int .i64 A.t, .int .i64 A.c', .int .i64 A.k', .int .i64 A.a', .int .i64 A.t'] 29 (0, 0))) [.int .i64 B.d, .int .i64 B.l, .int .i64 B.f, .int .i64 B.s, .int .i64 B.o, .int .i64 B.n, .int .i64 B.x, .int .i64 B.c, .int .i64 B.k, .int .i64 B.a, .int .i64 B.t, .int .i64 B.c', .int .i64 B.k', .int .i64 B.a', .int .i64 B.t'] 29
  simp only [World.size_alloc] at b_Q
  have bb_ : Below w.heap.size w ((w.alloc (.cells #[.int .i64 A.d, .int .i64 A.l, .int .i64 A.f, .int .i64 A.s, .int .i64 A.o, .int .i64 A.n, .int .i64 A.x, .int .i64 A.c, .int .i64 A.k, .int .i64 A.a, .int .i64 A.t, .int .i64 A.c', .int .i64 A.k', .int .i64 A.a', .int .i64 A.t'] 29 (0, 0))).alloc (.cells #[.int .i64 B.d, .int .i64 B.l, .int .i64 B.f, .int .i64 B.s, .int .i64 B.o, .int .i64 B.n, .int .i64 B.x, .int .i64 B.c, .int .i64 B.k, .int .i64 B.a, .int .i64 B.t, .int .i64 B.c', .int .i64 B.k', .int .i64 B.a', .int .i64 B.t'] 29 (0, 0))) := ((Below.refl _ w).alloc (by first | exact Nat.le_refl _ | (simp; done) | (simp; omega)) (.cells #[.int .i64 A.d, .int .i64 A.l, .int .i64 A.f, .int .i64 A.s, .int .i64 A.o, .int .i64 A.n, .int .i64 A.x, .int .i64 A.c, .int .i64 A.k, .int .i64 A.a, .int .i64 A.t, .int .i64 A.c', .int .i64 A.k', .int .i64 A.a', .int .i64 A.t'] 29 (0, 0))).alloc (by first | exact Nat.le_refl _ | (simp; done) | (simp; omega)) (.cells #[.int .i64 B.d, .int .i64 B.l, .int .i64 B.f, .int .i64 B.s, .int .i64 B.o, .int .i64 B.n, .int .i64 B.x, .int .i64 B.c, .int .i64 B.k, .int .i64 B.a, .int .i64 B.t, .int .i64 B.c', .int .i64 B.k', .int .i64 B.a', .int .i64 B.t'] 29 (0, 0))
  have XP0 := Lib.hid b_P
  have XQ0 := Lib.hid b_Q
  have BB0 := Lib.hid bb_
  clear bb_ b_P b_Q
  have b_P := XP0.out
  obtain ⟨x0, x1, x2, x3, x4, x5, x6, x7, x8, x9, x10, x11, x12, x13, x14, xf⟩ := b_P.fifteen
  clear b_P
  go_enter Tryd.func68, Tryd.ntmps68
  go_wp2_with fail
  refine (C1.out _ BB0.out).mono ?_
  rintro e w1 ⟨rfl, g1⟩
  clear x0 x1 x2 x3 x4 x5 x6 x7 x8 x9 x10 x11 x12 x13 x14 xf
  have XP1 := Lib.hid (XP0.out.below g1)
  have XQ1 := Lib.hid (XQ0.out.below g1)
  have BB1 := Lib.hid (BB0.out.trans (g1.mono BB0.out.size))
  clear XP0 XQ0 BB0 g1
  have b_Q := XQ1.out
  obtain ⟨y0, y1, y2, y3, y4, y5, y6, y7, y8, y9, y10, y11, y12, y13, y14, yf⟩ := b_Q.fifteen
  clear b_Q
  go_wp2_with fail
  refine (C2.out _ BB1.out).mono ?_
  rintro e w2 ⟨rfl, g1⟩
  clear y0 y1 y2 y3 y4 y5 y6 y7 y8 y9 y10 y11 y12 y13 y14 yf
  have XP2 := Lib.hid (XP1.out.below g1)
  have XQ2 := Lib.hid (XQ1.out.below g1)
  have BB2 := Lib.hid (BB1.out.trans (g1.mono BB1.out.size))
  clear XP1 XQ1 BB1 g1
  go_wp2_with fail
  go_ret
  exact ⟨by first | rfl | (rw [hr]; done) | (rw [← hr]; done) | (subst hr; simp), BB2.out⟩
theorem isSimpler_any (A B : Arm) (w : World) (hA : A.ok = true) (hB : B.ok = true) (hAt : AttsLie w) :
    Calls Tryd.prog 68 #[.agg #[.int .i64 A.d, .int .i64 A.l, .int .i64 A.f, .int .i64 A.s, .int .i64 A.o, .int .i64 A.n, .int .i64 A.x, .int .i64 A.c, .int .i64 A.k, .int .i64 A.a, .int .i64 A.t, .int .i64 A.c', .int .i64 A.k', .int .i64 A.a', .int .i64 A.t'], .agg #[.int .i64 B.d, .int .i64 B.l, .int .i64 B.f, .int .i64 B.s, .int .i64 B.o, .int .i64 B.n, .int .i64 B.x, .int .i64 B.c, .int .i64 B.k, .int .i64 B.a, .int .i64 B.t, .int .i64 B.c', .int .i64 B.k', .int .i64 B.a', .int .i64 B.t']] w fun e w' => e = .returned (.bool (A.less B)) ∧ Below w.heap.size w w' := by
  by_cases he : A.lay = B.lay
  · exact isSimpler_1 A B w hA hB he hAt
  · exact isSimpler_2 A B w hA hB he hAt
end Go.Proofs.YtapjiffililmgaaDoor
