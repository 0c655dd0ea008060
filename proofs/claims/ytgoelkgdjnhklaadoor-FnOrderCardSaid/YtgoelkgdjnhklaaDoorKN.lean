/- Several small texts in one: ABefore. -/
import Derived.Test.YtgoelkgdjnhklaaDoorKS
import Derived.Test.YtgoelkgdjnhklaaDoorK5
import Derived.Test.YtgoelkgdjnhklaaDoorKM
import Derived.Deep.RegionHeld3
import Derived.Deep.DeepCutAuto
namespace Go.Proofs.YtgoelkgdjnhklaaDoor
open Go.RowKit

/-- The boxes of two arms, and all that was there. -/
def JB (w : World) (A B : List Value) (W : World) : Prop := W.rangeAt w.heap.size 0 A ∧ W.rangeAt (w.heap.size + 1) 0 B ∧ BoxF W w.heap.size A 37 ∧ BoxF W (w.heap.size + 1) B 37 ∧ Below w.heap.size w W
theorem JB.of {w W : World} {A B : List Value} (h1 : BoxF W w.heap.size A 37) (h2 : BoxF W (w.heap.size + 1) B 37) (h3 : Below w.heap.size w W) : JB w A B W := ⟨h1.range, h2.range, h1, h2, h3⟩
theorem JB.below {w W W' : World} {A B : List Value} (h : JB w A B W) (hb : Below W.heap.size W W') : JB w A B W' := JB.of (h.2.2.1.below hb) (h.2.2.2.1.below hb) (h.2.2.2.2.trans (hb.mono h.2.2.2.2.size))
theorem JB.drew {w W : World} {A B : List Value} (h : JB w A B W) : JB w A B W.drew := h.below (Below.refl _ _).drew
theorem JB.low {w W : World} {A B : List Value} (h : JB w A B W) : Below w.heap.size w W := h.2.2.2.2
theorem JB.new (w : World) (A B : List Value) : JB w A B ((w.alloc (.cells A.toArray 37 (0, 0))).alloc (.cells B.toArray 37 (0, 0))) := by
  have h1 := (BoxF.new w A 37).alloc (.cells B.toArray 37 (0, 0))
  have h2 := BoxF.new (w.alloc (.cells A.toArray 37 (0, 0))) B 37
  rw [World.size_alloc] at h2
  exact JB.of h1 h2 (((Below.refl _ w).alloc (Nat.le_refl _) _).alloc (by simp) _)
/-- Which of two texts is the less. -/
def lessT (x y : ByteArray) : Bool := Op.bytesLess x.toList y.toList
theorem less_impl (x y : ByteArray) (w : World) :
    Calls Tryd.prog 72 #[.string x, .string y] w fun e w' => e = .returned (.bool (lessT x y)) ∧ w = w' := by
  go_enter Tryd.func72, Tryd.ntmps72
  go_wp2_with fail
  go_ret
  exact ⟨rfl, rfl⟩
set_option maxRecDepth 100000 in
set_option maxHeartbeats 8000000 in
theorem before_impl (i0 i1 i2 i3 i4 i5 i6 i7 i8 i9 i10 i11 i12 i13 i14 j0 j1 j2 j3 j4 j5 j6 j7 j8 j9 j10 j11 j12 j13 j14 : Int) (w : World) (r1 r2 : Bool) (h1 : aOkB i0 i1 i2 i3 i4 i5 i6 i7 i8 i9 i10 i11 i12 i13 i14 = r1) (h2 : aOkB j0 j1 j2 j3 j4 j5 j6 j7 j8 j9 j10 j11 j12 j13 j14 = r2) (hT : STabs w) :
    Calls Tryd.prog 19 #[.agg #[.int .i64 i0, .int .i64 i1, .int .i64 i2, .int .i64 i3, .int .i64 i4, .int .i64 i5, .int .i64 i6, .int .i64 i7, .int .i64 i8, .int .i64 i9, .int .i64 i10, .int .i64 i11, .int .i64 i12, .int .i64 i13, .int .i64 i14], .agg #[.int .i64 j0, .int .i64 j1, .int .i64 j2, .int .i64 j3, .int .i64 j4, .int .i64 j5, .int .i64 j6, .int .i64 j7, .int .i64 j8, .int .i64 j9, .int .i64 j10, .int .i64 j11, .int .i64 j12, .int .i64 j13, .int .i64 j14]] w fun e w' => e = .returned (.tuple #[.bool (r1 && r2 && lessT (armsN i0 i1 i2 i3 i4 i5 i6 i7 i8 i9 i10 i11 i12 i13 i14) (armsN j0 j1 j2 j3 j4 j5 j6 j7 j8 j9 j10 j11 j12 j13 j14)), .bool (r1 && r2)]) ∧ Below w.heap.size w w' := by
  have HA := Lib.hid (fun W (hb : Below w.heap.size w W) => armsText_impl i0 i1 i2 i3 i4 i5 i6 i7 i8 i9 i10 i11 i12 i13 i14 W r1 h1 (hT.below hb))
  have HB := Lib.hid (fun W (hb : Below w.heap.size w W) => armsText_impl j0 j1 j2 j3 j4 j5 j6 j7 j8 j9 j10 j11 j12 j13 j14 W r2 h2 (hT.below hb))
  have K0 := Lib.hid (JB.new w [.int .i64 i0, .int .i64 i1, .int .i64 i2, .int .i64 i3, .int .i64 i4, .int .i64 i5, .int .i64 i6, .int .i64 i7, .int .i64 i8, .int .i64 i9, .int .i64 i10, .int .i64 i11, .int .i64 i12, .int .i64 i13, .int .i64 i14] [.int .i64 j0, .int .i64 j1, .int .i64 j2, .int .i64 j3, .int .i64 j4, .int .i64 j5, .int .i64 j6, .int .i64 j7, .int .i64 j8, .int .i64 j9, .int .i64 j10, .int .i64 j11, .int .i64 j12, .int .i64 j13, .int .i64 j14])
  have r0 := K0.out.1
  generalize armsN i0 i1 i2 i3 i4 i5 i6 i7 i8 i9 i10 i11 i12 i13 i14 = TA at *
  generalize armsN j0 j1 j2 j3 j4 j5 j6 j7 j8 j9 j10 j11 j12 j13 j14 = TB at *
  clear h1 h2 hT
  cases r1
  · cases r2
    · go_enter Tryd.func19, Tryd.ntmps19
      go_wp2_with (with_reducible refine isList ?_; refine ld15 2 w.heap.size [.int .i64 i0, .int .i64 i1, .int .i64 i2, .int .i64 i3, .int .i64 i4, .int .i64 i5, .int .i64 i6, .int .i64 i7, .int .i64 i8, .int .i64 i9, .int .i64 i10, .int .i64 i11, .int .i64 i12, .int .i64 i13, .int .i64 i14] rfl rfl rfl rfl ?_ ?_; exact r0)
      clear r0
      refine (HA.out _ K0.out.low).mono ?_
      rintro e w1 ⟨rfl, g1⟩
      have K1 := Lib.hid (K0.out.below g1)
      clear g1 K0
      have r0 := K1.out.2.1
      go_wp2_with (with_reducible refine isList ?_; refine ld15 3 (w.heap.size + 1) [.int .i64 j0, .int .i64 j1, .int .i64 j2, .int .i64 j3, .int .i64 j4, .int .i64 j5, .int .i64 j6, .int .i64 j7, .int .i64 j8, .int .i64 j9, .int .i64 j10, .int .i64 j11, .int .i64 j12, .int .i64 j13, .int .i64 j14] rfl rfl rfl rfl ?_ ?_; exact r0)
      clear r0
      refine (HB.out _ K1.out.low).mono ?_
      rintro e w2 ⟨rfl, g1⟩
      have K2 := Lib.hid (K1.out.below g1)
      clear g1 K1
      go_wp2_with fail
      go_ret2
      exact ⟨rfl, K2.out.low⟩
    · go_enter Tryd.func19, Tryd.ntmps19
      go_wp2_with (with_reducible refine isList ?_; refine ld15 2 w.heap.size [.int .i64 i0, .int .i64 i1, .int .i64 i2, .int .i64 i3, .int .i64 i4, .int .i64 i5, .int .i64 i6, .int .i64 i7, .int .i64 i8, .int .i64 i9, .int .i64 i10, .int .i64 i11, .int .i64 i12, .int .i64 i13, .int .i64 i14] rfl rfl rfl rfl ?_ ?_; exact r0)
      clear r0
      refine (HA.out _ K0.out.low).mono ?_
      rintro e w1 ⟨rfl, g1⟩
      have K1 := Lib.hid (K0.out.below g1)
      clear g1 K0
      have r0 := K1.out.2.1
      go_wp2_with (with_reducible refine isList ?_; refine ld15 3 (w.heap.size + 1) [.int .i64 j0, .int .i64 j1, .int .i64 j2, .int .i64 j3, .int .i64 j4, .int .i64 j5, .int .i64 j6, .int .i64 j7, .int .i64 j8, .int .i64 j9, .int .i64 j10, .int .i64 j11, .int .i64 j12, .int .i64 j13, .int .i64 j14] rfl rfl rfl rfl ?_ ?_; exact r0)
      clear r0
      refine (HB.out _ K1.out.low).mono ?_
      rintro e w2 ⟨rfl, g1⟩
      have K2 := Lib.hid (K1.out.below g1)
      clear g1 K1
      go_wp2_with fail
      go_ret2
      exact ⟨rfl, K2.out.low⟩
  · cases r2
    · go_enter Tryd.func19, Tryd.ntmps19
      go_wp2_with (with_reducible refine isList ?_; refine ld15 2 w.heap.size [.int .i64 i0, .int .i64 i1, .int .i64 i2, .int .i64 i3, .int .i64 i4, .int .i64 i5, .int .i64 i6, .int .i64 i7, .int .i64 i8, .int .i64 i9, .int .i64 i10, .int .i64 i11, .int .i64 i12, .int .i64 i13, .int .i64 i14] rfl rfl rfl rfl ?_ ?_; exact r0)
      clear r0
      refine (HA.out _ K0.out.low).mono ?_
      rintro e w1 ⟨rfl, g1⟩
      have K1 := Lib.hid (K0.out.below g1)
      clear g1 K0
      have r0 := K1.out.2.1
      go_wp2_with (with_reducible refine isList ?_; refine ld15 3 (w.heap.size + 1) [.int .i64 j0, .int .i64 j1, .int .i64 j2, .int .i64 j3, .int .i64 j4, .int .i64 j5, .int .i64 j6, .int .i64 j7, .int .i64 j8, .int .i64 j9, .int .i64 j10, .int .i64 j11, .int .i64 j12, .int .i64 j13, .int .i64 j14] rfl rfl rfl rfl ?_ ?_; exact r0)
      clear r0
      refine (HB.out _ K1.out.low).mono ?_
      rintro e w2 ⟨rfl, g1⟩
      have K2 := Lib.hid (K1.out.below g1)
      clear g1 K1
      go_wp2_with fail
      go_ret2
      exact ⟨rfl, K2.out.low⟩
    · go_enter Tryd.func19, Tryd.ntmps19
      go_wp2_with (with_reducible refine isList ?_; refine ld15 2 w.heap.size [.int .i64 i0, .int .i64 i1, .int .i64 i2, .int .i64 i3, .int .i64 i4, .int .i64 i5, .int .i64 i6, .int .i64 i7, .int .i64 i8, .int .i64 i9, .int .i64 i10, .int .i64 i11, .int .i64 i12, .int .i64 i13, .int .i64 i14] rfl rfl rfl rfl ?_ ?_; exact r0)
      clear r0
      refine (HA.out _ K0.out.low).mono ?_
      rintro e w1 ⟨rfl, g1⟩
      have K1 := Lib.hid (K0.out.below g1)
      clear g1 K0
      have r0 := K1.out.2.1
      go_wp2_with (with_reducible refine isList ?_; refine ld15 3 (w.heap.size + 1) [.int .i64 j0, .int .i64 j1, .int .i64 j2, .int .i64 j3, .int .i64 j4, .int .i64 j5, .int .i64 j6, .int .i64 j7, .int .i64 j8, .int .i64 j9, .int .i64 j10, .int .i64 j11, .int .i64 j12, .int .i64 j13, .int .i64 j14] rfl rfl rfl rfl ?_ ?_; exact r0)
      clear r0
      refine (HB.out _ K1.out.low).mono ?_
      rintro e w2 ⟨rfl, g1⟩
      have K2 := Lib.hid (K1.out.below g1)
      clear g1 K1
      go_wp2_with fail
      refine (less_impl _ _ _).mono ?_
      rintro e w3 ⟨rfl, rfl⟩
      go_wp2_with fail
      go_ret2
      exact ⟨rfl, K2.out.low⟩
end Go.Proofs.YtgoelkgdjnhklaaDoor
