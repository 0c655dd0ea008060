/- Several small texts in one: RSimp, RSimp2, ArmsX. -/
import Derived.Test.YtpcghkciibbmgaaDoorRArmsV
import Derived.Test.YtpcghkciibbmgaaDoorMergeA
import Derived.Deep.RegionWith
import Derived.Deep.DeepCutAuto
import Derived.Deep.RegionHeld3
namespace Go.Proofs.YtpcghkciibbmgaaDoor
open Go.RowKit

set_option maxRecDepth 100000 in
set_option maxHeartbeats 8000000 in
theorem isSimpler_1 (A B : Arm) (w : World) (hA : A.ok = true) (hB : B.ok = true) (he : A.lay = B.lay) (hAt : AttsLie w) :
    Calls Tryd.prog 43 #[.agg #[.int .i64 A.d, .int .i64 A.l, .int .i64 A.f, .int .i64 A.s, .int .i64 A.o, .int .i64 A.n, .int .i64 A.x, .int .i64 A.c, .int .i64 A.k, .int .i64 A.a, .int .i64 A.t, .int .i64 A.c', .int .i64 A.k', .int .i64 A.a', .int .i64 A.t'], .agg #[.int .i64 B.d, .int .i64 B.l, .int .i64 B.f, .int .i64 B.s, .int .i64 B.o, .int .i64 B.n, .int .i64 B.x, .int .i64 B.c, .int .i64 B.k, .int .i64 B.a, .int .i64 B.t, .int .i64 B.c', .int .i64 B.k', .int .i64 B.a', .int .i64 B.t']] w fun e w' => e = .returned (.bool (A.less B)) ∧ Below w.heap.size w w' := by
  have cl1 := fun W (hb : Below w.heap.size w W) => layerCount_impl A.d A.l A.f A.s A.o A.n A.x A.c A.k A.a A.t A.c' A.k' A.a' A.t' W hA (hAt.below hb)
  have cl2 := fun W (hb : Below w.heap.size w W) => layerCount_impl B.d B.l B.f B.s B.o B.n B.x B.c B.k B.a B.t B.c' B.k' B.a' B.t' W hB (hAt.below hb)
  have cc1 := fun W (hb : Below w.heap.size w W) => chargeTotal_impl A.d A.l A.f A.s A.o A.n A.x A.c A.k A.a A.t A.c' A.k' A.a' A.t' W hA (hAt.below hb)
  have cc2 := fun W (hb : Below w.heap.size w W) => chargeTotal_impl B.d B.l B.f B.s B.o B.n B.x B.c B.k B.a B.t B.c' B.k' B.a' B.t' W hB (hAt.below hb)
  obtain ⟨r, hr⟩ : ∃ r, A.less B = r := ⟨_, rfl⟩
  rw [hr]
  unfold Arm.less at hr
  rw [if_pos he] at hr
  unfold Arm.chg at hr
  unfold Arm.lay at he
  generalize layN A.o (gNoB A.c A.k A.a A.t) (gNoB A.c' A.k' A.a' A.t') = y1 at *
  generalize layN B.o (gNoB B.c B.k B.a B.t) (gNoB B.c' B.k' B.a' B.t') = y2 at *
  have e0 : (y1 != y2) = false := by rw [he]; simp
  have C1 := Lib.hid cl1
  have C2 := Lib.hid cl2
  have C3 := Lib.hid cc1
  have C4 := Lib.hid cc2
  clear cl1 cl2 cc1 cc2 hA hB hAt
  have b_P := (BoxF.new w [.int .i64 A.d, .int .i64 A.l, .int .i64 A.f, .int .i64 A.s, .int .i64 A.o, .int .i64 A.n, .int .i64 A.x, .int .i64 A.c, .int .i64 A.k, .int .i64 A.a, .int .i64 A.t, .int .i64 A.c', .int .i64 A.k', .int .i64 A.a', .int .i64 A.t'] 29).alloc (.cells #[.int .i64 B.d, .int .i64 B.l, .int .i64 B.f, .int .i64 B.s, .int .i64 B.o, .int .i64 B.n, .int .i64 B.x, .int .i64 B.c, .int .i64 B.k, .int .i64 B.a, .int .i64 B.t, .int .i64 B.c', .int .i64 B.k', .int .i64 B.a', .int .i64 B.t'] 29 (0, 0))
  have b_Q := BoxF.new (w.alloc (.cells #[.int .i64 A.d, .int .i64 A.l, .int .i64 A.f, .int .i64 A.s, .int .i64 A.o, .int .i64 A.n, .int .i64 A.x, .int .i64 A.c, .int .i64 A.k, .int .i64 A.a, .int .i64 A.t, .int .i64 A.c', .int .i64 A.k', .int .i64 A.a', .int .i64 A.t'] 29 (0, 0))) [.int .i64 B.d, .int .i64 B.l, .int .i64 B.f, .int .i64 B.s, .int .i64 B.o, .int .i64 B.n, .int .i64 B.x, .int .i64 B.c, .int .i64 B.k, .int .i64 B.a, .int .i64 B.t, .int .i64 B.c', .int .i64 B.k', .int .i64 B.a', .int .i64 B.t'] 29
  simp only [World.size_alloc] at b_Q
  have bb_ : Below w.heap.size w ((w.alloc (.cells #[.int .i64 A.d, .int .i64 A.l, .int .i64 A.f, .int .i64 A.s, .int .i64 A.o, .int .i64 A.n, .int .i64 A.x, .int .i64 A.c, .int .i64 A.k, .int .i64 A.a, .int .i64 A.t, .int .i64 A.c', .int .i64 A.k', .int .i64 A.a', .int .i64 A.t'] 29 (0, 0))).alloc (.cells #[.int .i64 B.d, .int .i64 B.l, .int .i64 B.f, .int .i64 B.s, .int .i64 B.o, .int .i64 B.n, .int .i64 B.x, .int .i64 B.c, .int .i64 B.k, .int .i64 B.a, .int .i64 B.t, .int .i64 B.c', .int .i64 B.k', .int .i64 B.a', .int .i64 B.t'] 29 (0, 0))) := ((Below.refl _ w).alloc (by first | exact Nat.le_refl _ | (simp; done) | (simp; omega)) (.cells #[.int .i64 A.d, .int .i64 A.l, .int .i64 A.f, .int .i64 A.s, .int .i64 A.o, .int .i64 A.n, .int .i64 A.x, .int .i64 A.c, .int .i64 A.k, .int .i64 A.a, .int .i64 A.t, .int .i64 A.c', .int .i64 A.k', .int .i64 A.a', .int .i64 A.t'] 29 (0, 0))).alloc (by first | exact Nat.le_refl _ | (simp; done) | (simp; omega)) (.cells #[.int .i64 B.d, .int .i64 B.l, .int .i64 B.f, .int .i64 B.s, .int .i64 B.o, .int .i64 B.n, .int .i64 B.x, .int .i64 B.c, .int .i64 B.k, .int .i64 B.a, .int .i64 B.t, .int .i64 B.c', .int .i64 B.k', .int .i64 B.a', .int .i64 B.t'] 29 (0, 0))
  have XP0 := Lib.hid b_P
  have XQ0 := Lib.hid b_Q
  have BB0 := Lib.hid bb_
  clear bb_ b_P b_Q
  have b_P := XP0.out
  obtain ⟨x0, x1, x2, x3, x4, x5, x6, x7, x8, x9, x10, x11, x12, x13, x14, xf⟩ := b_P.fifteen
  clear b_P
  go_enter Tryd.func43, Tryd.ntmps43
  go_wp2_with fail
  refine (C1.out _ BB0.out).mono ?_
  rintro e w1 ⟨rfl, g1⟩
  clear x0 x1 x2 x3 x4 x5 x6 x7 x8 x9 x10 x11 x12 x13 x14 xf
  have XP1 := Lib.hid (XP0.out.below g1)
  have XQ1 := Lib.hid (XQ0.out.below g1)
  have BB1 := Lib.hid (BB0.out.trans (g1.mono BB0.out.size))
  clear XP0 XQ0 BB0 g1
  have b_Q := XQ1.out
  obtain ⟨y0, y1, y2, y3, y4, y5, y6, y7, y8, y9, y10, y11, y12, y13, y14, yf⟩ := b_Q.fifteen
  clear b_Q
  go_wp2_with fail
  refine (C2.out _ BB1.out).mono ?_
  rintro e w2 ⟨rfl, g1⟩
  clear y0 y1 y2 y3 y4 y5 y6 y7 y8 y9 y10 y11 y12 y13 y14 yf
  have XP2 := Lib.hid (XP1.out.below g1)
  have XQ2 := Lib.hid (XQ1.out.below g1)
  have BB2 := Lib.hid (BB1.out.trans (g1.mono BB1.out.size))
  clear XP1 XQ1 BB1 g1
  have b_P := XP2.out
  obtain ⟨x0, x1, x2, x3, x4, x5, x6, x7, x8, x9, x10, x11, x12, x13, x14, xf⟩ := b_P.fifteen
  clear b_P
  go_wp2_with fail
  refine (C3.out _ BB2.out).mono ?_
  rintro e w3 ⟨rfl, g1⟩
  clear x0 x1 x2 x3 x4 x5 x6 x7 x8 x9 x10 x11 x12 x13 x14 xf
  have XP3 := Lib.hid (XP2.out.below g1)
  have XQ3 := Lib.hid (XQ2.out.below g1)
  have BB3 := Lib.hid (BB2.out.trans (g1.mono BB2.out.size))
  clear XP2 XQ2 BB2 g1
  have b_Q := XQ3.out
  obtain ⟨y0, y1, y2, y3, y4, y5, y6, y7, y8, y9, y10, y11, y12, y13, y14, yf⟩ := b_Q.fifteen
  clear b_Q
  go_wp2_with fail
  refine (C4.out _ BB3.out).mono ?_
  rintro e w4 ⟨rfl, g1⟩
  clear y0 y1 y2 y3 y4 y5 y6 y7 y8 y9 y10 y11 y12 y13 y14 yf
  have XP4 := Lib.hid (XP3.out.below g1)
  have XQ4 := Lib.hid (XQ3.out.below g1)
  have BB4 := Lib.hid (BB3.out.trans (g1.mono BB3.out.size))
  clear XP3 XQ3 BB3 g1
  go_wp2_with fail
  go_ret
  exact ⟨by first | rfl | (rw [hr]; done) | (rw [← hr]; done) | (subst hr; simp), BB4.out⟩
set_option maxRecDepth 100000 in
set_option maxHeartbeats 8000000 in
theorem isSimpler_2 (A B : Arm) (w : World) (hA : A.ok = true) (hB : B.ok = true) (he : A.lay ≠ B.lay) (hAt : AttsLie w) :
    Calls Tryd.prog 43 #[.agg #[.int .i64 A.d, .int .i64 A.l, .int .i64 A.f, .int .i64 A.s, .int .i64 A.o, .int .i64 A.n, .int .i64 A.x, .int .i64 A.c, .int .i64 A.k, .int .i64 A.a, .int .i64 A.t, .int .i64 A.c', .int .i64 A.k', .int .i64 A.a', .int .i64 A.t'], .agg #[.int .i64 B.d, .int .i64 B.l, .int .i64 B.f, .int .i64 B.s, .int .i64 B.o, .int .i64 B.n, .int .i64 B.x, .int .i64 B.c, .int .i64 B.k, .int .i64 B.a, .int .i64 B.t, .int .i64 B.c', .int .i64 B.k', .int .i64 B.a', .int .i64 B.t']] w fun e w' => e = .returned (.bool (A.less B)) ∧ Below w.heap.size w w' := by
  have cl1 := fun W (hb : Below w.heap.size w W) => layerCount_impl A.d A.l A.f A.s A.o A.n A.x A.c A.k A.a A.t A.c' A.k' A.a' A.t' W hA (hAt.below hb)
  have cl2 := fun W (hb : Below w.heap.size w W) => layerCount_impl B.d B.l B.f B.s B.o B.n B.x B.c B.k B.a B.t B.c' B.k' B.a' B.t' W hB (hAt.below hb)
  have cc1 := fun W (hb : Below w.heap.size w W) => chargeTotal_impl A.d A.l A.f A.s A.o A.n A.x A.c A.k A.a A.t A.c' A.k' A.a' A.t' W hA (hAt.below hb)
  have cc2 := fun W (hb : Below w.heap.size w W) => chargeTotal_impl B.d B.l B.f B.s B.o B.n B.x B.c B.k B.a B.t B.c' B.k' B.a' B.t' W hB (hAt.below hb)
  obtain ⟨r, hr⟩ : ∃ r, A.less B = r := ⟨_, rfl⟩
  rw [hr]
  unfold Arm.less at hr
  rw [if_neg he] at hr
  unfold Arm.lay at hr
  unfold Arm.lay at he
  generalize layN A.o (gNoB A.c A.k A.a A.t) (gNoB A.c' A.k' A.a' A.t') = y1 at *
  generalize layN B.o (gNoB B.c B.k B.a B.t) (gNoB B.c' B.k' B.a' B.t') = y2 at *
  have e0 : (y1 != y2) = true := by simpa using he
  have C1 := Lib.hid cl1
  have C2 := Lib.hid cl2
  have C3 := Lib.hid cc1
  have C4 := Lib.hid cc2
  clear cl1 cl2 cc1 cc2 hA hB hAt
  have b_P := (BoxF.new w [.int .i64 A.d, .int .i64 A.l, .int .i64 A.f, .int .i64 A.s, .int .i64 A.o, .int .i64 A.n, .int .i64 A.x, .int .i64 A.c, .int .i64 A.k, .int .i64 A.a, .int .i64 A.t, .int .i64 A.c', .int .i64 A.k', .int .i64 A.a', .int .i64 A.t'] 29).alloc (.cells #[.int .i64 B.d, .int .i64 B.l, .int .i64 B.f, .int .i64 B.s, .int .i64 B.o, .int .i64 B.n, .int .i64 B.x, .int .i64 B.c, .int .i64 B.k, .int .i64 B.a, .int .i64 B.t, .int .i64 B.c', .int .i64 B.k', .int .i64 B.a', .int .i64 B.t'] 29 (0, 0))
  have b_Q := BoxF.new (w.alloc (.cells #[.int .i64 A.d, .int .i64 A.l, .int .i64 A.f, .int .i64 A.s, .int .i64 A.o, .int .i64 A.n, .int .i64 A.x, .int .i64 A.c, .int .i64 A.k, .int .i64 A.a, .int .i64 A.t, .int .i64 A.c', .int .i64 A.k', .int .i64 A.a', .int .i64 A.t'] 29 (0, 0))) [.int .i64 B.d, .int .i64 B.l, .int .i64 B.f, .int .i64 B.s, .int .i64 B.o, .int .i64 B.n, .int .i64 B.x, .int .i64 B.c, .int .i64 B.k, .int .i64 B.a, .int .i64 B.t, .int .i64 B.c', .int .i64 B.k', .int .i64 B.a', .int .i64 B.t'] 29
  simp only [World.size_alloc] at b_Q
  have bb_ : Below w.heap.size w ((w.alloc (.cells #[.int .i64 A.d, .int .i64 A.l, .int .i64 A.f, .int .i64 A.s, .int .i64 A.o, .int .i64 A.n, .int .i64 A.x, .int .i64 A.c, .int .i64 A.k, .int .i64 A.a, .int .i64 A.t, .int .i64 A.c', .int .i64 A.k', .int .i64 A.a', .int .i64 A.t'] 29 (0, 0))).alloc (.cells #[.int .i64 B.d, .int .i64 B.l, .int .i64 B.f, .int .i64 B.s, .int .i64 B.o, .int .i64 B.n, .int .i64 B.x, .int .i64 B.c, .int .i64 B.k, .int .i64 B.a, .int .i64 B.t, .int .i64 B.c', .int .i64 B.k', .int .i64 B.a', .int .i64 B.t'] 29 (0, 0))) := ((Below.refl _ w).alloc (by first | exact Nat.le_refl _ | (simp; done) | (simp; omega)) (.cells #[.int .i64 A.d, .int .i64 A.l, .int .i64 A.f, .int .i64 A.s, .int .i64 A.o, .int .i64 A.n, .int .i64 A.x, .int .i64 A.c, .int .i64 A.k, .int .i64 A.a, .int .i64 A.t, .int .i64 A.c', .int .i64 A.k', .int .i64 A.a', .int .i64 A.t'] 29 (0, 0))).alloc (by first | exact Nat.le_refl _ | (simp; done) | (simp; omega)) (.cells #[.int .i64 B.d, .int .i64 B.l, .int .i64 B.f, .int .i64 B.s, .int .i64 B.o, .int .i64 B.n, .int .i64 B.x, .int .i64 B.c, .int .i64 B.k, .int .i64 B.a, .int .i64 B.t, .int .i64 B.c', .int .i64 B.k', .int .i64 B.a', .int .i64 B.t'] 29 (0, 0))
  have XP0 := Lib.hid b_P
  have XQ0 := Lib.hid b_Q
  have BB0 := Lib.hid bb_
  clear bb_ b_P b_Q
  have b_P := XP0.out
  obtain ⟨x0, x1, x2, x3, x4, x5, x6, x7, x8, x9, x10, x11, x12, x13, x14, xf⟩ := b_P.fifteen
  clear b_P
  go_enter Tryd.func43, Tryd.ntmps43
  go_wp2_with fail
  refine (C1.out _ BB0.out).mono ?_
  rintro e w1 ⟨rfl, g1⟩
  clear x0 x1 x2 x3 x4 x5 x6 x7 x8 x9 x10 x11 x12 x13 x14 xf
  have XP1 := Lib.hid (XP0.out.below g1)
  have XQ1 := Lib.hid (XQ0.out.below g1)
  have BB1 := Lib.hid (BB0.out.trans (g1.mono BB0.out.size))
  clear XP0 XQ0 BB0 g1
  have b_Q := XQ1.out
  obtain ⟨y0, y1, y2, y3, y4, y5, y6, y7, y8, y9, y10, y11, y12, y13, y14, yf⟩ := b_Q.fifteen
  clear b_Q
  go_wp2_with fail
  refine (C2.out _ BB1.out).mono ?_
  rintro e w2 ⟨rfl, g1⟩
  clear y0 y1 y2 y3 y4 y5 y6 y7 y8 y9 y10 y11 y12 y13 y14 yf
  have XP2 := Lib.hid (XP1.out.below g1)
  have XQ2 := Lib.hid (XQ1.out.below g1)
  have BB2 := Lib.hid (BB1.out.trans (g1.mono BB1.out.size))
  clear XP1 XQ1 BB1 g1
  go_wp2_with fail
  go_ret
  exact ⟨by first | rfl | (rw [hr]; done) | (rw [← hr]; done) | (subst hr; simp), BB2.out⟩
theorem isSimpler_any (A B : Arm) (w : World) (hA : A.ok = true) (hB : B.ok = true) (hAt : AttsLie w) :
    Calls Tryd.prog 43 #[.agg #[.int .i64 A.d, .int .i64 A.l, .int .i64 A.f, .int .i64 A.s, .int .i64 A.o, .int .i64 A.n, .int .i64 A.x, .int .i64 A.c, .int .i64 A.k, .int .i64 A.a, .int .i64 A.t, .int .i64 A.c', .int .i64 A.k', .int .i64 A.a', .int .i64 A.t'], .agg #[.int .i64 B.d, .int .i64 B.l, .int .i64 B.f, .int .i64 B.s, .int .i64 B.o, .int .i64 B.n, .int .i64 B.x, .int .i64 B.c, .int .i64 B.k, .int .i64 B.a, .int .i64 B.t, .int .i64 B.c', .int .i64 B.k', .int .i64 B.a', .int .i64 B.t']] w fun e w' => e = .returned (.bool (A.less B)) ∧ Below w.heap.size w w' := by
  by_cases he : A.lay = B.lay
  · exact isSimpler_1 A B w hA hB he hAt
  · exact isSimpler_2 A B w hA hB he hAt
end Go.Proofs.YtpcghkciibbmgaaDoor
namespace Go.Proofs.YtpcghkciibbmgaaDoor
open Go.RowKit

set_option maxRecDepth 100000 in
set_option maxHeartbeats 8000000 in
theorem simplest_big (X : List Arm) (n : Nat) (a : Option Addr) (c : Nat) (w : World) (h : RdA w a n X) (hn : n = 0 ∨ 20 < n) (hm : n ≤ maxLen) :
    Calls Tryd.prog 22 #[.slice a n c] w fun e w' => e = .returned (.tuple #[.int .i64 0, .bool false]) ∧ Below w.heap.size w w' := by
  rcases hn with hn | hn
  · subst hn
    clear h
    go_enter Tryd.func22, Tryd.ntmps22
    go_wp2_with fail
    go_ret2
    exact ⟨rfl, Below.refl _ _⟩
  · have e1 : ((n : Int) == 0) = false := by rw [beq_eq_false_iff_ne]; omega
    have e2 : decide ((20 : Int) < (n : Int)) = true := by simp; omega
    clear h
    go_enter Tryd.func22, Tryd.ntmps22
    go_wp2_with fail
    go_ret2
    exact ⟨rfl, Below.refl _ _⟩
set_option maxRecDepth 100000 in
set_option maxHeartbeats 8000000 in
theorem simplest_loop (X : List Arm) (n : Nat) (a : Option Addr) (c : Nat) (w : World) (h : RdA w a n X) (h1 : 0 < n) (h2 : n ≤ 20) (hAt : AttsLie w) (r : Bool) (hr : X.all Arm.ok = r) :
    Calls Tryd.prog 22 #[.slice a n c] w fun e w' => e = .returned (.tuple #[.int .i64 (if r = true then ((bestN X n : Nat) : Int) else 0), .bool r]) ∧ Below w.heap.size w w' := by
  obtain ⟨b, o, rfl, hbw, hc⟩ := h.2 h1
  have e1 : ((n : Int) == 0) = false := by rw [beq_eq_false_iff_ne]; omega
  have e2 : decide ((20 : Int) < (n : Int)) = false := by simp; omega
  have HL := Lib.hid h.1
  have HC := Lib.hid hc
  have HR := Lib.hid hr
  have HA := Lib.hid hAt
  clear h hc hr hAt
  go_enter Tryd.func22, Tryd.ntmps22
  go_wp2_with fail
  go_loopw [4, 17] (fun v i wr => ∃ q : Nat, q ≤ n ∧ i = .int .i64 q ∧ v = .int .i64 ((bestN X q : Nat) : Int) ∧ Hid ((X.take q).all Arm.ok = true) ∧ Below w.heap.size w wr) (fun _ i _ => n - (intOf i).toNat)
  case atStart => exact ⟨0, by omega, rfl, rfl, by show _ = _; simp, Below.refl _ _⟩
  case round =>
    obtain ⟨q, hq, rfl, rfl, HT, hb⟩ := hrel
    by_cases hlt : q < n
    · obtain ⟨A, hA, hm⟩ := atA_of_lt HL.out hlt
      have hB0 := bestN_in (X := X) (k := q) (by have := HL.out; omega) (by have := HL.out; omega)
      obtain ⟨B, hB, hm2⟩ := atA_of_lt rfl hB0
      have hbl := bestN_lt X q
      rw [HL.out] at hB0
      have HB := Lib.hid hb
      have HAq := Lib.hid hA
      have HBq := Lib.hid hB
      have ka : ∀ j z, A.ints[j]? = some z → wr.cell? ⟨b, o + q * 15 + j, none⟩ = some (.int .i64 z) := fun j z hz => (hb.cell (p := ⟨b, o + q * 15 + j, none⟩) hbw).trans (HC.out q A hA j z hz)
      have ka := rdA_cells ka
      obtain ⟨x0, x1, x2, x3, x4, x5, x6, x7, x8, x9, x10, x11, x12, x13, x14⟩ := ka
      have HBO : Hid ((A.ok = true → B.ok = true) ∧ (A.less B = true → bestN X (q + 1) = q) ∧ (A.less B = false → bestN X (q + 1) = bestN X q)) := Lib.hid ⟨fun hok => by
        rcases Nat.lt_or_ge (bestN X q) q with h | h
        · exact okA_at hB h HT
        · have e : bestN X q = q := by omega
          rw [e, hA] at hB
          cases hB
          exact hok, fun h => bestN_yes hA hB h, fun h => bestN_no hA hB h⟩
      have CV := Lib.hid (fun W (hb : Below w.heap.size w W) (p : Bool) (hp : A.ok = p) => validArms_impl A.d A.l A.f A.s A.o A.n A.x A.c A.k A.a A.t A.c' A.k' A.a' A.t' W p hp (HA.out.below hb))
      have bx := BoxF.new wr [.int .i64 A.d, .int .i64 A.l, .int .i64 A.f, .int .i64 A.s, .int .i64 A.o, .int .i64 A.n, .int .i64 A.x, .int .i64 A.c, .int .i64 A.k, .int .i64 A.a, .int .i64 A.t, .int .i64 A.c', .int .i64 A.k', .int .i64 A.a', .int .i64 A.t'] 29
      have BX := Lib.hid bx
      clear bx hA hB hm hm2 hb
      generalize bestN X q = best at *
      obtain ⟨p, hp⟩ : ∃ p, A.ok = p := ⟨_, rfl⟩
      have CP := Lib.hid (fun W hb => CV.out W hb p hp)
      have HP := Lib.hid hp
      clear CV hp
      go_wp2_with fail
      refine (CP.out _ (HB.out.alloc HB.out.size _)).mono ?_
      rintro e w1 ⟨rfl, g1⟩
      clear x0 x1 x2 x3 x4 x5 x6 x7 x8 x9 x10 x11 x12 x13 x14 CP
      have BX1 := Lib.hid (BX.out.below g1)
      have HB1 := Lib.hid ((HB.out.alloc HB.out.size _).trans (g1.mono (HB.out.alloc HB.out.size _).size))
      clear g1 BX HB
      cases p
      · have HF : Hid (r = false) := Lib.hid (HR.out.symm.trans (okA_bad HAq.out HP.out))
        obtain rfl := HF.out
        go_wp2_with fail
        go_ret2
        exact ⟨rfl, HB1.out⟩
      · obtain ⟨s, hs⟩ : ∃ s, A.less B = s := ⟨_, rfl⟩
        have HS := Lib.hid hs
        have CS := Lib.hid (fun W (hb : Below w.heap.size w W) (hB' : B.ok = true) => isSimpler_any A B W HP.out hB' (HA.out.below hb))
        have kb : ∀ j z, B.ints[j]? = some z → w1.cell? ⟨b, o + best * 15 + j, none⟩ = some (.int .i64 z) := fun j z hz => (HB1.out.cell (p := ⟨b, o + best * 15 + j, none⟩) hbw).trans (HC.out best B HBq.out j z hz)
        have kb := rdA_cells kb
        obtain ⟨y0, y1, y2, y3, y4, y5, y6, y7, y8, y9, y10, y11, y12, y13, y14⟩ := kb
        have bx := BX1.out
        obtain ⟨z0, z1, z2, z3, z4, z5, z6, z7, z8, z9, z10, z11, z12, z13, z14, zf⟩ := bx.fifteen
        have HBok : Hid (B.ok = true) := Lib.hid (HBO.out.1 (HP.out))
        rw [hs] at CS
        clear hs bx
        go_wp2_with fail
        go_region_with (first
          | (go_at_call 43; (with_reducible refine (CS.out _ ?_ HBok.out).mono ?_); exact ⟨HB1.out.os, HB1.out.tape, HB1.out.output, HB1.out.size, HB1.out.block⟩; rintro e w2 ⟨rfl, g2⟩; have hS : Below w1.heap.size w1 w2 := ⟨g2.os, g2.tape, g2.output, g2.size, g2.block⟩; have HB2 := Lib.hid (HB1.out.trans (hS.mono HB1.out.size)); clear hS g2))
        all_goals
          clear y0 y1 y2 y3 y4 y5 y6 y7 y8 y9 y10 y11 y12 y13 y14 z0 z1 z2 z3 z4 z5 z6 z7 z8 z9 z10 z11 z12 z13 z14 zf
          have HT2 : Hid ((X.take (q + 1)).all Arm.ok = true) := Lib.hid (okA_succ HAq.out HT HP.out)
          cases s
          · have HN : Hid (bestN X (q + 1) = best) := Lib.hid (HBO.out.2.2 HS.out)
            go_wp2_with fail
            go_roundw
            case rel => exact ⟨q + 1, by omega, by go_num, by rw [HN.out], HT2, HB2.out⟩
            case measure => simp [intOf]; omega
          · have HN : Hid (bestN X (q + 1) = q) := Lib.hid (HBO.out.2.1 HS.out)
            go_wp2_with fail
            go_roundw
            case rel => exact ⟨q + 1, by omega, by go_num, by rw [HN.out], HT2, HB2.out⟩
            case measure => simp [intOf]; omega
    · have hqn : q = n := by omega
      have HF : Hid (r = true) := Lib.hid (HR.out.symm.trans (by have := HT; rwa [List.take_of_length_le (by have := HL.out; omega)] at this))
      have HB := Lib.hid hb
      clear hb
      obtain rfl := HF.out
      go_wp2_with fail
      go_ret2
      subst hqn
      exact ⟨rfl, HB.out⟩
/-- The program's Simplest, at every row of arms. -/
theorem simplest_impl (X : List Arm) (n : Nat) (a : Option Addr) (c : Nat) (w : World) (h : RdA w a n X) (hm : n ≤ maxLen) (hAt : AttsLie w) :
    Calls Tryd.prog 22 #[.slice a n c] w fun e w' => e = .returned (.tuple #[.int .i64 (simpI X), .bool (simpB X)]) ∧ Below w.heap.size w w' := by
  have hl := h.1
  unfold simpI simpB
  by_cases h0 : 1 ≤ n ∧ n ≤ 20
  · rcases Bool.eq_false_or_eq_true (X.all Arm.ok) with hr | hr
    · have q := simplest_loop X n a c w h h0.1 h0.2 hAt true hr
      rw [if_pos ⟨by omega, by omega, hr⟩, decide_eq_true (p := 1 ≤ X.length ∧ X.length ≤ 20 ∧ X.all Arm.ok = true) ⟨by omega, by omega, hr⟩, hl]
      exact q
    · have q := simplest_loop X n a c w h h0.1 h0.2 hAt false hr
      rw [if_neg (by rw [hr]; simp), decide_eq_false (p := 1 ≤ X.length ∧ X.length ≤ 20 ∧ X.all Arm.ok = true) (by rw [hr]; simp)]
      exact q
  · have q := simplest_big X n a c w h (by omega) hm
    rw [if_neg (by omega), decide_eq_false (p := 1 ≤ X.length ∧ X.length ≤ 20 ∧ X.all Arm.ok = true) (by omega)]
    exact q
end Go.Proofs.YtpcghkciibbmgaaDoor
namespace Go.Proofs.YtpcghkciibbmgaaDoor
open Go.RowKit

/-- The cells of two of the row's arms, in every world that leaves the row as it was. -/
theorem lx_of {wr W : World} {b o q r : Nat} {A B : Arm} (h : b < wr.heap.size ∧ (∀ j z, A.ints[j]? = some z → wr.cell? ⟨b, o + q * 15 + j, none⟩ = some (.int .i64 z)) ∧ ∀ j z, B.ints[j]? = some z → wr.cell? ⟨b, o + r * 15 + j, none⟩ = some (.int .i64 z)) (hb : Below wr.heap.size wr W) : W.cell? ⟨b, o + q * 15, none⟩ = some (.int .i64 A.d) ∧ W.cell? ⟨b, o + q * 15 + 1, none⟩ = some (.int .i64 A.l) ∧ W.cell? ⟨b, o + q * 15 + 2, none⟩ = some (.int .i64 A.f) ∧ W.cell? ⟨b, o + q * 15 + 3, none⟩ = some (.int .i64 A.s) ∧ W.cell? ⟨b, o + q * 15 + 4, none⟩ = some (.int .i64 A.o) ∧ W.cell? ⟨b, o + q * 15 + 5, none⟩ = some (.int .i64 A.n) ∧ W.cell? ⟨b, o + q * 15 + 6, none⟩ = some (.int .i64 A.x) ∧ W.cell? ⟨b, o + q * 15 + 7, none⟩ = some (.int .i64 A.c) ∧ W.cell? ⟨b, o + q * 15 + 8, none⟩ = some (.int .i64 A.k) ∧ W.cell? ⟨b, o + q * 15 + 9, none⟩ = some (.int .i64 A.a) ∧ W.cell? ⟨b, o + q * 15 + 10, none⟩ = some (.int .i64 A.t) ∧ W.cell? ⟨b, o + q * 15 + 11, none⟩ = some (.int .i64 A.c') ∧ W.cell? ⟨b, o + q * 15 + 12, none⟩ = some (.int .i64 A.k') ∧ W.cell? ⟨b, o + q * 15 + 13, none⟩ = some (.int .i64 A.a') ∧ W.cell? ⟨b, o + q * 15 + 14, none⟩ = some (.int .i64 A.t') ∧ W.cell? ⟨b, o + r * 15, none⟩ = some (.int .i64 B.d) ∧ W.cell? ⟨b, o + r * 15 + 1, none⟩ = some (.int .i64 B.l) ∧ W.cell? ⟨b, o + r * 15 + 2, none⟩ = some (.int .i64 B.f) ∧ W.cell? ⟨b, o + r * 15 + 3, none⟩ = some (.int .i64 B.s) ∧ W.cell? ⟨b, o + r * 15 + 4, none⟩ = some (.int .i64 B.o) ∧ W.cell? ⟨b, o + r * 15 + 5, none⟩ = some (.int .i64 B.n) ∧ W.cell? ⟨b, o + r * 15 + 6, none⟩ = some (.int .i64 B.x) ∧ W.cell? ⟨b, o + r * 15 + 7, none⟩ = some (.int .i64 B.c) ∧ W.cell? ⟨b, o + r * 15 + 8, none⟩ = some (.int .i64 B.k) ∧ W.cell? ⟨b, o + r * 15 + 9, none⟩ = some (.int .i64 B.a) ∧ W.cell? ⟨b, o + r * 15 + 10, none⟩ = some (.int .i64 B.t) ∧ W.cell? ⟨b, o + r * 15 + 11, none⟩ = some (.int .i64 B.c') ∧ W.cell? ⟨b, o + r * 15 + 12, none⟩ = some (.int .i64 B.k') ∧ W.cell? ⟨b, o + r * 15 + 13, none⟩ = some (.int .i64 B.a') ∧ W.cell? ⟨b, o + r * 15 + 14, none⟩ = some (.int .i64 B.t') ∧ Below wr.heap.size wr W :=
  ⟨(hb.cell (p := ⟨b, o + q * 15 + 0, none⟩) h.1).trans (h.2.1 0 _ rfl), (hb.cell (p := ⟨b, o + q * 15 + 1, none⟩) h.1).trans (h.2.1 1 _ rfl), (hb.cell (p := ⟨b, o + q * 15 + 2, none⟩) h.1).trans (h.2.1 2 _ rfl), (hb.cell (p := ⟨b, o + q * 15 + 3, none⟩) h.1).trans (h.2.1 3 _ rfl), (hb.cell (p := ⟨b, o + q * 15 + 4, none⟩) h.1).trans (h.2.1 4 _ rfl), (hb.cell (p := ⟨b, o + q * 15 + 5, none⟩) h.1).trans (h.2.1 5 _ rfl), (hb.cell (p := ⟨b, o + q * 15 + 6, none⟩) h.1).trans (h.2.1 6 _ rfl), (hb.cell (p := ⟨b, o + q * 15 + 7, none⟩) h.1).trans (h.2.1 7 _ rfl), (hb.cell (p := ⟨b, o + q * 15 + 8, none⟩) h.1).trans (h.2.1 8 _ rfl), (hb.cell (p := ⟨b, o + q * 15 + 9, none⟩) h.1).trans (h.2.1 9 _ rfl), (hb.cell (p := ⟨b, o + q * 15 + 10, none⟩) h.1).trans (h.2.1 10 _ rfl), (hb.cell (p := ⟨b, o + q * 15 + 11, none⟩) h.1).trans (h.2.1 11 _ rfl), (hb.cell (p := ⟨b, o + q * 15 + 12, none⟩) h.1).trans (h.2.1 12 _ rfl), (hb.cell (p := ⟨b, o + q * 15 + 13, none⟩) h.1).trans (h.2.1 13 _ rfl), (hb.cell (p := ⟨b, o + q * 15 + 14, none⟩) h.1).trans (h.2.1 14 _ rfl), (hb.cell (p := ⟨b, o + r * 15 + 0, none⟩) h.1).trans (h.2.2 0 _ rfl), (hb.cell (p := ⟨b, o + r * 15 + 1, none⟩) h.1).trans (h.2.2 1 _ rfl), (hb.cell (p := ⟨b, o + r * 15 + 2, none⟩) h.1).trans (h.2.2 2 _ rfl), (hb.cell (p := ⟨b, o + r * 15 + 3, none⟩) h.1).trans (h.2.2 3 _ rfl), (hb.cell (p := ⟨b, o + r * 15 + 4, none⟩) h.1).trans (h.2.2 4 _ rfl), (hb.cell (p := ⟨b, o + r * 15 + 5, none⟩) h.1).trans (h.2.2 5 _ rfl), (hb.cell (p := ⟨b, o + r * 15 + 6, none⟩) h.1).trans (h.2.2 6 _ rfl), (hb.cell (p := ⟨b, o + r * 15 + 7, none⟩) h.1).trans (h.2.2 7 _ rfl), (hb.cell (p := ⟨b, o + r * 15 + 8, none⟩) h.1).trans (h.2.2 8 _ rfl), (hb.cell (p := ⟨b, o + r * 15 + 9, none⟩) h.1).trans (h.2.2 9 _ rfl), (hb.cell (p := ⟨b, o + r * 15 + 10, none⟩) h.1).trans (h.2.2 10 _ rfl), (hb.cell (p := ⟨b, o + r * 15 + 11, none⟩) h.1).trans (h.2.2 11 _ rfl), (hb.cell (p := ⟨b, o + r * 15 + 12, none⟩) h.1).trans (h.2.2 12 _ rfl), (hb.cell (p := ⟨b, o + r * 15 + 13, none⟩) h.1).trans (h.2.2 13 _ rfl), (hb.cell (p := ⟨b, o + r * 15 + 14, none⟩) h.1).trans (h.2.2 14 _ rfl), hb⟩
theorem BoxF.drew' {w : World} {b : Nat} {L : List Value} {t : TypeId} (h : BoxF w b L t) : BoxF w.drew b L t := h
set_option maxRecDepth 100000 in
set_option maxHeartbeats 8000000 in
theorem simplestS_big (n : Nat) (a : Option Addr) (c : Nat) (w : World) (hn : n = 0 ∨ 20 < n) :
    Calls Tryd.prog 23 #[.slice a n c] w fun e w' => e = .returned (.tuple #[.int .i64 0, .bool false]) ∧ Below w.heap.size w w' := by
  have cl := fun W => l1In_no (n : Int) 1 20 W (by omega)
  clear hn
  go_enter Tryd.func23, Tryd.ntmps23
  go_wp2_with (go_at_call 44; refine (cl _).mono ?_; rintro e w' ⟨rfl, rfl⟩)
  go_ret2
  exact ⟨rfl, Below.refl _ _⟩
set_option maxRecDepth 100000 in
set_option maxHeartbeats 8000000 in
theorem simplestS_loop (X : List Arm) (n : Nat) (a : Option Addr) (c : Nat) (w : World) (h : RdA w a n X) (h1 : 0 < n) (h2 : n ≤ 20) (r : Bool) (hr : X.all Arm.ok = r) :
    Calls Tryd.prog 23 #[.slice a n c] w fun e w' => e = .returned (.tuple #[.int .i64 (if r = true then ((bestN X n : Nat) : Int) else 0), .bool r]) ∧ Below w.heap.size w w' := by
  obtain ⟨b, o, rfl, hbw, hc⟩ := h.2 h1
  have cl := fun W => l1In_yes (n : Int) 1 20 W (by omega) (by omega)
  have HL := Lib.hid h.1
  have HC := Lib.hid hc
  have HR := Lib.hid hr
  clear h hc hr
  go_enter Tryd.func23, Tryd.ntmps23
  go_wp2_with (go_at_call 44; refine (cl _).mono ?_; rintro e w' ⟨rfl, rfl⟩)
  clear cl
  go_loopw [4, 5] (fun v i wr => ∃ q : Nat, q ≤ n ∧ i = .int .i64 q ∧ v = .int .i64 ((bestN X q : Nat) : Int) ∧ Hid ((X.take q).all Arm.ok = true) ∧ Below w.heap.size w wr) (fun _ i _ => n - (intOf i).toNat)
  case atStart => exact ⟨0, by omega, rfl, rfl, by show _ = _; simp, Below.refl _ _⟩
  case round =>
    obtain ⟨q, hq, rfl, rfl, HT, hb⟩ := hrel
    by_cases hlt : q < n
    · obtain ⟨A, hA, hm⟩ := atA_of_lt HL.out hlt
      have hB0 := bestN_in (X := X) (k := q) (by have := HL.out; omega) (by have := HL.out; omega)
      obtain ⟨B, hB, hm2⟩ := atA_of_lt rfl hB0
      have hbl := bestN_lt X q
      rw [HL.out] at hB0
      have HB := Lib.hid hb
      have HAq := Lib.hid hA
      have HBq := Lib.hid hB
      have HBO : Hid ((A.ok = true → B.ok = true) ∧ (A.less B = true → bestN X (q + 1) = q) ∧ (A.less B = false → bestN X (q + 1) = bestN X q)) := Lib.hid ⟨fun hok => by
        rcases Nat.lt_or_ge (bestN X q) q with h | h
        · exact okA_at hB h HT
        · have e : bestN X q = q := by omega
          rw [e, hA] at hB
          cases hB
          exact hok, fun h => bestN_yes hA hB h, fun h => bestN_no hA hB h⟩
      have ka : ∀ j z, A.ints[j]? = some z → wr.cell? ⟨b, o + q * 15 + j, none⟩ = some (.int .i64 z) := fun j z hz => (hb.cell (p := ⟨b, o + q * 15 + j, none⟩) hbw).trans (HC.out q A hA j z hz)
      have ka := rdA_cells ka
      obtain ⟨x0, x1, x2, x3, x4, x5, x6, x7, x8, x9, x10, x11, x12, x13, x14⟩ := ka
      have kb : ∀ j z, B.ints[j]? = some z → wr.cell? ⟨b, o + bestN X q * 15 + j, none⟩ = some (.int .i64 z) := fun j z hz => (hb.cell (p := ⟨b, o + bestN X q * 15 + j, none⟩) hbw).trans (HC.out _ B hB j z hz)
      have kb := rdA_cells kb
      obtain ⟨y0, y1, y2, y3, y4, y5, y6, y7, y8, y9, y10, y11, y12, y13, y14⟩ := kb
      have HX : Hid (b < wr.heap.size ∧ (∀ j z, A.ints[j]? = some z → wr.cell? ⟨b, o + q * 15 + j, none⟩ = some (.int .i64 z)) ∧ ∀ j z, B.ints[j]? = some z → wr.cell? ⟨b, o + bestN X q * 15 + j, none⟩ = some (.int .i64 z)) := Lib.hid ⟨Nat.lt_of_lt_of_le hbw hb.size, fun j z hz => (hb.cell (p := ⟨b, o + q * 15 + j, none⟩) hbw).trans (HC.out q A hA j z hz), fun j z hz => (hb.cell (p := ⟨b, o + bestN X q * 15 + j, none⟩) hbw).trans (HC.out _ B hB j z hz)⟩
      clear hA hB hm hm2 hb
      generalize bestN X q = best at *
      have hbwr : b < wr.heap.size := Nat.lt_of_lt_of_le hbw HB.out.size
      go_upto_region 7 with fail
      go_cut [6, 7] (fun s6 s7 wx => ∃ g g', s6 = .pointer (some ⟨g, 0, none⟩) ∧ s7 = .pointer (some ⟨g', 0, none⟩) ∧ BoxF wx g [.int .i64 A.d, .int .i64 A.l, .int .i64 A.f, .int .i64 A.s, .int .i64 A.o, .int .i64 A.n, .int .i64 A.x, .int .i64 A.c, .int .i64 A.k, .int .i64 A.a, .int .i64 A.t, .int .i64 A.c', .int .i64 A.k', .int .i64 A.a', .int .i64 A.t'] 29 ∧ BoxF wx g' [.int .i64 B.d, .int .i64 B.l, .int .i64 B.f, .int .i64 B.s, .int .i64 B.o, .int .i64 B.n, .int .i64 B.x, .int .i64 B.c, .int .i64 B.k, .int .i64 B.a, .int .i64 B.t, .int .i64 B.c', .int .i64 B.k', .int .i64 B.a', .int .i64 B.t'] 29 ∧ Below w.heap.size w wx)
      case first =>
        as_aux_lemma =>
          have hS00 := lx_of HX.out (Below.refl _ wr)
          have hS0 := lx_of HX.out (Below.refl _ wr).drew
          go_region_held3 (fun w' => (w'.cell? ⟨b, o + q * 15, none⟩ = some (.int .i64 A.d) ∧ w'.cell? ⟨b, o + q * 15 + 1, none⟩ = some (.int .i64 A.l) ∧ w'.cell? ⟨b, o + q * 15 + 2, none⟩ = some (.int .i64 A.f) ∧ w'.cell? ⟨b, o + q * 15 + 3, none⟩ = some (.int .i64 A.s) ∧ w'.cell? ⟨b, o + q * 15 + 4, none⟩ = some (.int .i64 A.o) ∧ w'.cell? ⟨b, o + q * 15 + 5, none⟩ = some (.int .i64 A.n) ∧ w'.cell? ⟨b, o + q * 15 + 6, none⟩ = some (.int .i64 A.x) ∧ w'.cell? ⟨b, o + q * 15 + 7, none⟩ = some (.int .i64 A.c) ∧ w'.cell? ⟨b, o + q * 15 + 8, none⟩ = some (.int .i64 A.k) ∧ w'.cell? ⟨b, o + q * 15 + 9, none⟩ = some (.int .i64 A.a) ∧ w'.cell? ⟨b, o + q * 15 + 10, none⟩ = some (.int .i64 A.t) ∧ w'.cell? ⟨b, o + q * 15 + 11, none⟩ = some (.int .i64 A.c') ∧ w'.cell? ⟨b, o + q * 15 + 12, none⟩ = some (.int .i64 A.k') ∧ w'.cell? ⟨b, o + q * 15 + 13, none⟩ = some (.int .i64 A.a') ∧ w'.cell? ⟨b, o + q * 15 + 14, none⟩ = some (.int .i64 A.t') ∧ w'.cell? ⟨b, o + best * 15, none⟩ = some (.int .i64 B.d) ∧ w'.cell? ⟨b, o + best * 15 + 1, none⟩ = some (.int .i64 B.l) ∧ w'.cell? ⟨b, o + best * 15 + 2, none⟩ = some (.int .i64 B.f) ∧ w'.cell? ⟨b, o + best * 15 + 3, none⟩ = some (.int .i64 B.s) ∧ w'.cell? ⟨b, o + best * 15 + 4, none⟩ = some (.int .i64 B.o) ∧ w'.cell? ⟨b, o + best * 15 + 5, none⟩ = some (.int .i64 B.n) ∧ w'.cell? ⟨b, o + best * 15 + 6, none⟩ = some (.int .i64 B.x) ∧ w'.cell? ⟨b, o + best * 15 + 7, none⟩ = some (.int .i64 B.c) ∧ w'.cell? ⟨b, o + best * 15 + 8, none⟩ = some (.int .i64 B.k) ∧ w'.cell? ⟨b, o + best * 15 + 9, none⟩ = some (.int .i64 B.a) ∧ w'.cell? ⟨b, o + best * 15 + 10, none⟩ = some (.int .i64 B.t) ∧ w'.cell? ⟨b, o + best * 15 + 11, none⟩ = some (.int .i64 B.c') ∧ w'.cell? ⟨b, o + best * 15 + 12, none⟩ = some (.int .i64 B.k') ∧ w'.cell? ⟨b, o + best * 15 + 13, none⟩ = some (.int .i64 B.a') ∧ w'.cell? ⟨b, o + best * 15 + 14, none⟩ = some (.int .i64 B.t') ∧ Below wr.heap.size wr w'))
            (first
              | with_reducible exact hS0
              | with_reducible assumption
              | (with_reducible refine lx_of HX.out ?_; repeat' (first | with_reducible exact Below.refl _ _ | with_reducible refine Below.drew ?_ | with_reducible refine Below.alloc ?_ ?_ _ | with_reducible refine Below.setCell ?_ ?_ _ | (simp; done) | (simp; omega))))
            (fail)
          all_goals rename_i hh
          all_goals clear hh
          all_goals go_wp2_with fail
          all_goals go_meet
          all_goals
            first
              | (have q1 : BoxF ((wr.alloc (.cells #[.int .i64 A.d, .int .i64 A.l, .int .i64 A.f, .int .i64 A.s, .int .i64 A.o, .int .i64 A.n, .int .i64 A.x, .int .i64 A.c, .int .i64 A.k, .int .i64 A.a, .int .i64 A.t, .int .i64 A.c', .int .i64 A.k', .int .i64 A.a', .int .i64 A.t'] 29 (0, 0))).alloc (.cells #[.int .i64 B.d, .int .i64 B.l, .int .i64 B.f, .int .i64 B.s, .int .i64 B.o, .int .i64 B.n, .int .i64 B.x, .int .i64 B.c, .int .i64 B.k, .int .i64 B.a, .int .i64 B.t, .int .i64 B.c', .int .i64 B.k', .int .i64 B.a', .int .i64 B.t'] 29 (0, 0))) wr.heap.size [.int .i64 A.d, .int .i64 A.l, .int .i64 A.f, .int .i64 A.s, .int .i64 A.o, .int .i64 A.n, .int .i64 A.x, .int .i64 A.c, .int .i64 A.k, .int .i64 A.a, .int .i64 A.t, .int .i64 A.c', .int .i64 A.k', .int .i64 A.a', .int .i64 A.t'] 29 := (BoxF.new wr [.int .i64 A.d, .int .i64 A.l, .int .i64 A.f, .int .i64 A.s, .int .i64 A.o, .int .i64 A.n, .int .i64 A.x, .int .i64 A.c, .int .i64 A.k, .int .i64 A.a, .int .i64 A.t, .int .i64 A.c', .int .i64 A.k', .int .i64 A.a', .int .i64 A.t'] 29).alloc (.cells #[.int .i64 B.d, .int .i64 B.l, .int .i64 B.f, .int .i64 B.s, .int .i64 B.o, .int .i64 B.n, .int .i64 B.x, .int .i64 B.c, .int .i64 B.k, .int .i64 B.a, .int .i64 B.t, .int .i64 B.c', .int .i64 B.k', .int .i64 B.a', .int .i64 B.t'] 29 (0, 0))
                 have q2 : BoxF ((wr.alloc (.cells #[.int .i64 A.d, .int .i64 A.l, .int .i64 A.f, .int .i64 A.s, .int .i64 A.o, .int .i64 A.n, .int .i64 A.x, .int .i64 A.c, .int .i64 A.k, .int .i64 A.a, .int .i64 A.t, .int .i64 A.c', .int .i64 A.k', .int .i64 A.a', .int .i64 A.t'] 29 (0, 0))).alloc (.cells #[.int .i64 B.d, .int .i64 B.l, .int .i64 B.f, .int .i64 B.s, .int .i64 B.o, .int .i64 B.n, .int .i64 B.x, .int .i64 B.c, .int .i64 B.k, .int .i64 B.a, .int .i64 B.t, .int .i64 B.c', .int .i64 B.k', .int .i64 B.a', .int .i64 B.t'] 29 (0, 0))) (wr.heap.size + 1) [.int .i64 B.d, .int .i64 B.l, .int .i64 B.f, .int .i64 B.s, .int .i64 B.o, .int .i64 B.n, .int .i64 B.x, .int .i64 B.c, .int .i64 B.k, .int .i64 B.a, .int .i64 B.t, .int .i64 B.c', .int .i64 B.k', .int .i64 B.a', .int .i64 B.t'] 29 := by have q := BoxF.new (wr.alloc (.cells #[.int .i64 A.d, .int .i64 A.l, .int .i64 A.f, .int .i64 A.s, .int .i64 A.o, .int .i64 A.n, .int .i64 A.x, .int .i64 A.c, .int .i64 A.k, .int .i64 A.a, .int .i64 A.t, .int .i64 A.c', .int .i64 A.k', .int .i64 A.a', .int .i64 A.t'] 29 (0, 0))) [.int .i64 B.d, .int .i64 B.l, .int .i64 B.f, .int .i64 B.s, .int .i64 B.o, .int .i64 B.n, .int .i64 B.x, .int .i64 B.c, .int .i64 B.k, .int .i64 B.a, .int .i64 B.t, .int .i64 B.c', .int .i64 B.k', .int .i64 B.a', .int .i64 B.t'] 29; rw [World.size_alloc] at q; exact q
                 have q3 : Below w.heap.size w ((wr.alloc (.cells #[.int .i64 A.d, .int .i64 A.l, .int .i64 A.f, .int .i64 A.s, .int .i64 A.o, .int .i64 A.n, .int .i64 A.x, .int .i64 A.c, .int .i64 A.k, .int .i64 A.a, .int .i64 A.t, .int .i64 A.c', .int .i64 A.k', .int .i64 A.a', .int .i64 A.t'] 29 (0, 0))).alloc (.cells #[.int .i64 B.d, .int .i64 B.l, .int .i64 B.f, .int .i64 B.s, .int .i64 B.o, .int .i64 B.n, .int .i64 B.x, .int .i64 B.c, .int .i64 B.k, .int .i64 B.a, .int .i64 B.t, .int .i64 B.c', .int .i64 B.k', .int .i64 B.a', .int .i64 B.t'] 29 (0, 0))) := (HB.out.alloc HB.out.size _).alloc (by have := HB.out.size; simp; omega) _
                 generalize (wr.alloc (.cells #[.int .i64 A.d, .int .i64 A.l, .int .i64 A.f, .int .i64 A.s, .int .i64 A.o, .int .i64 A.n, .int .i64 A.x, .int .i64 A.c, .int .i64 A.k, .int .i64 A.a, .int .i64 A.t, .int .i64 A.c', .int .i64 A.k', .int .i64 A.a', .int .i64 A.t'] 29 (0, 0))).alloc (.cells #[.int .i64 B.d, .int .i64 B.l, .int .i64 B.f, .int .i64 B.s, .int .i64 B.o, .int .i64 B.n, .int .i64 B.x, .int .i64 B.c, .int .i64 B.k, .int .i64 B.a, .int .i64 B.t, .int .i64 B.c', .int .i64 B.k', .int .i64 B.a', .int .i64 B.t'] 29 (0, 0)) = WW at *
                 exact ⟨_, _, rfl, rfl, BoxF.drew' q1, BoxF.drew' q2, q3.drew⟩)
              | (have q1 : BoxF ((wr.alloc (.cells #[.int .i64 B.d, .int .i64 B.l, .int .i64 B.f, .int .i64 B.s, .int .i64 B.o, .int .i64 B.n, .int .i64 B.x, .int .i64 B.c, .int .i64 B.k, .int .i64 B.a, .int .i64 B.t, .int .i64 B.c', .int .i64 B.k', .int .i64 B.a', .int .i64 B.t'] 29 (0, 0))).alloc (.cells #[.int .i64 A.d, .int .i64 A.l, .int .i64 A.f, .int .i64 A.s, .int .i64 A.o, .int .i64 A.n, .int .i64 A.x, .int .i64 A.c, .int .i64 A.k, .int .i64 A.a, .int .i64 A.t, .int .i64 A.c', .int .i64 A.k', .int .i64 A.a', .int .i64 A.t'] 29 (0, 0))) wr.heap.size [.int .i64 B.d, .int .i64 B.l, .int .i64 B.f, .int .i64 B.s, .int .i64 B.o, .int .i64 B.n, .int .i64 B.x, .int .i64 B.c, .int .i64 B.k, .int .i64 B.a, .int .i64 B.t, .int .i64 B.c', .int .i64 B.k', .int .i64 B.a', .int .i64 B.t'] 29 := (BoxF.new wr [.int .i64 B.d, .int .i64 B.l, .int .i64 B.f, .int .i64 B.s, .int .i64 B.o, .int .i64 B.n, .int .i64 B.x, .int .i64 B.c, .int .i64 B.k, .int .i64 B.a, .int .i64 B.t, .int .i64 B.c', .int .i64 B.k', .int .i64 B.a', .int .i64 B.t'] 29).alloc (.cells #[.int .i64 A.d, .int .i64 A.l, .int .i64 A.f, .int .i64 A.s, .int .i64 A.o, .int .i64 A.n, .int .i64 A.x, .int .i64 A.c, .int .i64 A.k, .int .i64 A.a, .int .i64 A.t, .int .i64 A.c', .int .i64 A.k', .int .i64 A.a', .int .i64 A.t'] 29 (0, 0))
                 have q2 : BoxF ((wr.alloc (.cells #[.int .i64 B.d, .int .i64 B.l, .int .i64 B.f, .int .i64 B.s, .int .i64 B.o, .int .i64 B.n, .int .i64 B.x, .int .i64 B.c, .int .i64 B.k, .int .i64 B.a, .int .i64 B.t, .int .i64 B.c', .int .i64 B.k', .int .i64 B.a', .int .i64 B.t'] 29 (0, 0))).alloc (.cells #[.int .i64 A.d, .int .i64 A.l, .int .i64 A.f, .int .i64 A.s, .int .i64 A.o, .int .i64 A.n, .int .i64 A.x, .int .i64 A.c, .int .i64 A.k, .int .i64 A.a, .int .i64 A.t, .int .i64 A.c', .int .i64 A.k', .int .i64 A.a', .int .i64 A.t'] 29 (0, 0))) (wr.heap.size + 1) [.int .i64 A.d, .int .i64 A.l, .int .i64 A.f, .int .i64 A.s, .int .i64 A.o, .int .i64 A.n, .int .i64 A.x, .int .i64 A.c, .int .i64 A.k, .int .i64 A.a, .int .i64 A.t, .int .i64 A.c', .int .i64 A.k', .int .i64 A.a', .int .i64 A.t'] 29 := by have q := BoxF.new (wr.alloc (.cells #[.int .i64 B.d, .int .i64 B.l, .int .i64 B.f, .int .i64 B.s, .int .i64 B.o, .int .i64 B.n, .int .i64 B.x, .int .i64 B.c, .int .i64 B.k, .int .i64 B.a, .int .i64 B.t, .int .i64 B.c', .int .i64 B.k', .int .i64 B.a', .int .i64 B.t'] 29 (0, 0))) [.int .i64 A.d, .int .i64 A.l, .int .i64 A.f, .int .i64 A.s, .int .i64 A.o, .int .i64 A.n, .int .i64 A.x, .int .i64 A.c, .int .i64 A.k, .int .i64 A.a, .int .i64 A.t, .int .i64 A.c', .int .i64 A.k', .int .i64 A.a', .int .i64 A.t'] 29; rw [World.size_alloc] at q; exact q
                 have q3 : Below w.heap.size w ((wr.alloc (.cells #[.int .i64 B.d, .int .i64 B.l, .int .i64 B.f, .int .i64 B.s, .int .i64 B.o, .int .i64 B.n, .int .i64 B.x, .int .i64 B.c, .int .i64 B.k, .int .i64 B.a, .int .i64 B.t, .int .i64 B.c', .int .i64 B.k', .int .i64 B.a', .int .i64 B.t'] 29 (0, 0))).alloc (.cells #[.int .i64 A.d, .int .i64 A.l, .int .i64 A.f, .int .i64 A.s, .int .i64 A.o, .int .i64 A.n, .int .i64 A.x, .int .i64 A.c, .int .i64 A.k, .int .i64 A.a, .int .i64 A.t, .int .i64 A.c', .int .i64 A.k', .int .i64 A.a', .int .i64 A.t'] 29 (0, 0))) := (HB.out.alloc HB.out.size _).alloc (by have := HB.out.size; simp; omega) _
                 generalize (wr.alloc (.cells #[.int .i64 B.d, .int .i64 B.l, .int .i64 B.f, .int .i64 B.s, .int .i64 B.o, .int .i64 B.n, .int .i64 B.x, .int .i64 B.c, .int .i64 B.k, .int .i64 B.a, .int .i64 B.t, .int .i64 B.c', .int .i64 B.k', .int .i64 B.a', .int .i64 B.t'] 29 (0, 0))).alloc (.cells #[.int .i64 A.d, .int .i64 A.l, .int .i64 A.f, .int .i64 A.s, .int .i64 A.o, .int .i64 A.n, .int .i64 A.x, .int .i64 A.c, .int .i64 A.k, .int .i64 A.a, .int .i64 A.t, .int .i64 A.c', .int .i64 A.k', .int .i64 A.a', .int .i64 A.t'] 29 (0, 0)) = WW at *
                 exact ⟨_, _, rfl, rfl, BoxF.drew' q2, BoxF.drew' q1, q3.drew⟩)
      case rest =>
        clear x0 x1 x2 x3 x4 x5 x6 x7 x8 x9 x10 x11 x12 x13 x14 y0 y1 y2 y3 y4 y5 y6 y7 y8 y9 y10 y11 y12 y13 y14 HB
        obtain ⟨g, g', rfl, rfl, bg, bg', hb⟩ := hcut
        have BG := Lib.hid bg
        have BG' := Lib.hid bg'
        have HB1 := Lib.hid hb
        obtain ⟨p, hp⟩ : ∃ p, A.ok = p := ⟨_, rfl⟩
        have CP := Lib.hid (fun W => l5Good_any A.d A.l A.f A.s A.o A.n A.x A.c A.k A.a A.t A.c' A.k' A.a' A.t' W p hp)
        have HP := Lib.hid hp
        clear hp bg' hb
        obtain ⟨z0, z1, z2, z3, z4, z5, z6, z7, z8, z9, z10, z11, z12, z13, z14, zf⟩ := bg.fifteen
        clear bg
        go_wp2_with fail
        refine (CP.out _).mono ?_
        rintro e w1 ⟨rfl, g1⟩
        clear z0 z1 z2 z3 z4 z5 z6 z7 z8 z9 z10 z11 z12 z13 z14 zf CP
        have BG1 := Lib.hid (BG.out.below g1)
        have BH1 := Lib.hid (BG'.out.below g1)
        have HB2 := Lib.hid (HB1.out.trans (g1.mono HB1.out.size))
        clear g1 BG BG' HB1
        cases p
        · obtain rfl : r = false := HR.out.symm.trans (okA_bad HAq.out HP.out)
          go_wp2_with fail
          go_ret2
          exact ⟨rfl, HB2.out⟩
        · obtain ⟨s, hs⟩ : ∃ s, A.less B = s := ⟨_, rfl⟩
          have HS := Lib.hid hs
          have HT2 : Hid ((X.take (q + 1)).all Arm.ok = true) := Lib.hid (okA_succ HAq.out HT HP.out)
          have hcA := aOk_counts (show aOkB A.d A.l A.f A.s A.o A.n A.x A.c A.k A.a A.t A.c' A.k' A.a' A.t' = true from HP.out)
          have hcB := aOk_counts (show aOkB B.d B.l B.f B.s B.o B.n B.x B.c B.k B.a B.t B.c' B.k' B.a' B.t' = true from HBO.out.1 HP.out)
          have ew1 : IntKind.i64.wrap (A.c + A.c') = A.c + A.c' := IntWalk.i64_in _ (by omega)
          have ew2 : IntKind.i64.wrap (B.c + B.c') = B.c + B.c' := IntWalk.i64_in _ (by omega)
          have sa := fun W => l5Layers_any A.d A.l A.f A.s A.o A.n A.x A.c A.k A.a A.t A.c' A.k' A.a' A.t' W
          have sb := fun W => l5Layers_any B.d B.l B.f B.s B.o B.n B.x B.c B.k B.a B.t B.c' B.k' B.a' B.t' W
          unfold Arm.less Arm.chg Arm.lay at hs
          generalize layN A.o (gNoB A.c A.k A.a A.t) (gNoB A.c' A.k' A.a' A.t') = y1 at *
          generalize layN B.o (gNoB B.c B.k B.a B.t) (gNoB B.c' B.k' B.a' B.t') = y2 at *
          have SA := Lib.hid sa
          have SB := Lib.hid sb
          have HSS := Lib.hid hs
          clear sa sb hs hcA hcB
          have bg := BG1.out
          obtain ⟨z0, z1, z2, z3, z4, z5, z6, z7, z8, z9, z10, z11, z12, z13, z14, zf⟩ := bg.fifteen
          have bh := BH1.out
          obtain ⟨u0, u1, u2, u3, u4, u5, u6, u7, u8, u9, u10, u11, u12, u13, u14, uf⟩ := bh.fifteen
          clear bg bh
          go_wp2_with fail
          go_region_with (first
            | (go_at_call 45; (with_reducible refine (SA.out _).mono ?_); rintro e w2 ⟨rfl, g2⟩; have hS : Below w1.heap.size w1 w2 := ⟨g2.os, g2.tape, g2.output, g2.size, g2.block⟩; have bp := BH1.out.below hS; obtain ⟨y0, y1, y2, y3, y4, y5, y6, y7, y8, y9, y10, y11, y12, y13, y14, yf⟩ := bp.fifteen; have HM := Lib.hid hS; clear hS g2 bp)
            | (go_at_call 45; (with_reducible refine (SB.out _).mono ?_); rintro e w3 ⟨rfl, g3⟩; have hS : Below w2.heap.size w2 w3 := ⟨g3.os, g3.tape, g3.output, g3.size, g3.block⟩; have HM2 := Lib.hid (HM.out.trans (hS.mono HM.out.size)); clear hS g3))
          all_goals
            as_aux_lemma =>
              clear z0 z1 z2 z3 z4 z5 z6 z7 z8 z9 z10 z11 z12 z13 z14 zf u0 u1 u2 u3 u4 u5 u6 u7 u8 u9 u10 u11 u12 u13 u14 uf y0 y1 y2 y3 y4 y5 y6 y7 y8 y9 y10 y11 y12 y13 y14 yf
              have HB3 := Lib.hid (HB2.out.trans (HM2.out.mono HB2.out.size))
              have bg := BG1.out.below HM2.out
              obtain ⟨z0, z1, z2, z3, z4, z5, z6, z7, z8, z9, z10, z11, z12, z13, z14, zf⟩ := bg.fifteen
              have bh := BH1.out.below HM2.out
              obtain ⟨u0, u1, u2, u3, u4, u5, u6, u7, u8, u9, u10, u11, u12, u13, u14, uf⟩ := bh.fifteen
              clear bg bh BG1 BH1 HM HM2 HB2 SA SB
              by_cases h1 : y1 < y2
              · have e1 : decide (y1 < y2) = true := by simpa using h1
                have hst : s = true := by rw [← HSS.out, if_neg (by omega), e1]
                have HN : Hid (bestN X (q + 1) = q) := Lib.hid (HBO.out.2.1 (HS.out.trans hst))
                clear hst h1
                go_wp2_with fail
                go_roundw
                case rel => exact ⟨q + 1, by omega, by go_num, by rw [HN.out], HT2, HB3.out⟩
                case measure => simp [intOf]; omega
              · have e1 : decide (y1 < y2) = false := by simpa using h1
                by_cases h2 : y1 = y2
                · have e2 : (y1 == y2) = true := by rw [beq_iff_eq]; exact h2
                  have e3 : decide (A.c + A.c' < B.c + B.c') = s := by rw [← HSS.out, if_pos h2]
                  clear h1 h2
                  cases s
                  · have HN : Hid (bestN X (q + 1) = best) := Lib.hid (HBO.out.2.2 HS.out)
                    go_wp2_with fail
                    go_roundw
                    case rel => exact ⟨q + 1, by omega, by go_num, by rw [HN.out], HT2, HB3.out⟩
                    case measure => simp [intOf]; omega
                  · have HN : Hid (bestN X (q + 1) = q) := Lib.hid (HBO.out.2.1 HS.out)
                    go_wp2_with fail
                    go_roundw
                    case rel => exact ⟨q + 1, by omega, by go_num, by rw [HN.out], HT2, HB3.out⟩
                    case measure => simp [intOf]; omega
                · have e2 : (y1 == y2) = false := by rw [beq_eq_false_iff_ne]; exact h2
                  have hst : s = false := by rw [← HSS.out, if_neg h2, e1]
                  have HN : Hid (bestN X (q + 1) = best) := Lib.hid (HBO.out.2.2 (HS.out.trans hst))
                  clear hst h1 h2
                  go_wp2_with fail
                  go_roundw
                  case rel => exact ⟨q + 1, by omega, by go_num, by rw [HN.out], HT2, HB3.out⟩
                  case measure => simp [intOf]; omega
    · have hqn : q = n := by omega
      obtain rfl : r = true := HR.out.symm.trans (by have := HT; rwa [List.take_of_length_le (by have := HL.out; omega)] at this)
      have HB := Lib.hid hb
      clear hb
      go_wp2_with fail
      go_ret2
      subst hqn
      exact ⟨rfl, HB.out⟩
/-- The model's Simplest, at every row of arms. -/
theorem simplest_spec (X : List Arm) (n : Nat) (a : Option Addr) (c : Nat) (w : World) (h : RdA w a n X) :
    Calls Tryd.prog 23 #[.slice a n c] w fun e w' => e = .returned (.tuple #[.int .i64 (simpI X), .bool (simpB X)]) ∧ Below w.heap.size w w' := by
  have hl := h.1
  unfold simpI simpB
  by_cases h0 : 1 ≤ n ∧ n ≤ 20
  · rcases Bool.eq_false_or_eq_true (X.all Arm.ok) with hr | hr
    · have q := simplestS_loop X n a c w h h0.1 h0.2 true hr
      rw [if_pos ⟨by omega, by omega, hr⟩, decide_eq_true (p := 1 ≤ X.length ∧ X.length ≤ 20 ∧ X.all Arm.ok = true) ⟨by omega, by omega, hr⟩, hl]
      exact q
    · have q := simplestS_loop X n a c w h h0.1 h0.2 false hr
      rw [if_neg (by rw [hr]; simp), decide_eq_false (p := 1 ≤ X.length ∧ X.length ≤ 20 ∧ X.all Arm.ok = true) (by rw [hr]; simp)]
      exact q
  · have q := simplestS_big n a c w (by omega)
    rw [if_neg (by omega), decide_eq_false (p := 1 ≤ X.length ∧ X.length ≤ 20 ∧ X.all Arm.ok = true) (by omega)]
    exact q
end Go.Proofs.YtpcghkciibbmgaaDoor
