/- Contract: the model's tinctures of arms. -/
import Derived.Test.YtapjiffililmgaaDoorArms5
namespace Go.Proofs.YtapjiffililmgaaDoor
open Go.RowKit

set_option maxHeartbeats 4000000 in
theorem armsTinctures_spec (d l f s o n x c k a t c' k' a' t' : Int) (w : World) (h : aOkB d l f s o n x c k a t c' k' a' t' = true) :
    Calls Tryd.prog 36 #[.agg #[.int .i64 d, .int .i64 l, .int .i64 f, .int .i64 s, .int .i64 o, .int .i64 n, .int .i64 x, .int .i64 c, .int .i64 k, .int .i64 a, .int .i64 t, .int .i64 c', .int .i64 k', .int .i64 a', .int .i64 t']] w (Ans w (armTL d f s o x (gNoB c k a t) (gNoB c' k' a' t') t t') true) := by
  have C1 := Lib.hid (fun W => l5Good_any d l f s o n x c k a t c' k' a' t' W true h)
  have ct := fun W => l5Tinctures_any d l f s o n x c k a t c' k' a' t' W
  unfold AnsL at ct
  unfold Ans
  generalize armTL d f s o x (gNoB c k a t) (gNoB c' k' a' t') t t' = T at *
  have CT := Lib.hid ct
  have bx := BoxF.new w [.int .i64 d, .int .i64 l, .int .i64 f, .int .i64 s, .int .i64 o, .int .i64 n, .int .i64 x, .int .i64 c, .int .i64 k, .int .i64 a, .int .i64 t, .int .i64 c', .int .i64 k', .int .i64 a', .int .i64 t'] 29
  clear h ct
  obtain ⟨x0, x1, x2, x3, x4, x5, x6, x7, x8, x9, x10, x11, x12, x13, x14, xf⟩ := bx.fifteen
  go_enter Tryd.func36, Tryd.ntmps36
  go_wp2_with fail
  refine (C1.out _).mono ?_
  rintro e w1 ⟨rfl, g1⟩
  have bx1 := bx.below g1
  have BB1 := Lib.hid (((Below.refl _ w).alloc (Nat.le_refl _) (.cells #[.int .i64 d, .int .i64 l, .int .i64 f, .int .i64 s, .int .i64 o, .int .i64 n, .int .i64 x, .int .i64 c, .int .i64 k, .int .i64 a, .int .i64 t, .int .i64 c', .int .i64 k', .int .i64 a', .int .i64 t'] 29 (0, 0))).trans (g1.mono (by simp)))
  clear g1 bx x0 x1 x2 x3 x4 x5 x6 x7 x8 x9 x10 x11 x12 x13 x14 xf
  obtain ⟨x0, x1, x2, x3, x4, x5, x6, x7, x8, x9, x10, x11, x12, x13, x14, xf⟩ := bx1.fifteen
  go_wp2_with fail
  refine (CT.out _).mono ?_
  rintro e w2 ⟨ga, gc, rfl, ho, g1⟩
  have BB2 := Lib.hid (BB1.out.trans (g1.mono BB1.out.size))
  have HO : Hid (OwnI w2 w.heap.size ga T.length gc T) := Lib.hid (row_low ho BB1.out.size)
  clear g1 ho bx1 x0 x1 x2 x3 x4 x5 x6 x7 x8 x9 x10 x11 x12 x13 x14 xf
  go_wp2_with fail
  go_ret2
  exact ⟨ga, gc, rfl, HO.out, BB2.out⟩
theorem armsTinctures_spec_no (d l f s o n x c k a t c' k' a' t' : Int) (w : World) (h : aOkB d l f s o n x c k a t c' k' a' t' = false) :
    Calls Tryd.prog 36 #[.agg #[.int .i64 d, .int .i64 l, .int .i64 f, .int .i64 s, .int .i64 o, .int .i64 n, .int .i64 x, .int .i64 c, .int .i64 k, .int .i64 a, .int .i64 t, .int .i64 c', .int .i64 k', .int .i64 a', .int .i64 t']] w (Ans w [] false) := by
  have C1 := Lib.hid (fun W => l5Good_any d l f s o n x c k a t c' k' a' t' W false h)
  have bx := BoxF.new w [.int .i64 d, .int .i64 l, .int .i64 f, .int .i64 s, .int .i64 o, .int .i64 n, .int .i64 x, .int .i64 c, .int .i64 k, .int .i64 a, .int .i64 t, .int .i64 c', .int .i64 k', .int .i64 a', .int .i64 t'] 29
  clear h
  obtain ⟨x0, x1, x2, x3, x4, x5, x6, x7, x8, x9, x10, x11, x12, x13, x14, xf⟩ := bx.fifteen
  go_enter Tryd.func36, Tryd.ntmps36
  go_wp2_with fail
  refine (C1.out _).mono ?_
  rintro e w1 ⟨rfl, g1⟩
  have BB1 := Lib.hid (((Below.refl _ w).alloc (Nat.le_refl _) (.cells #[.int .i64 d, .int .i64 l, .int .i64 f, .int .i64 s, .int .i64 o, .int .i64 n, .int .i64 x, .int .i64 c, .int .i64 k, .int .i64 a, .int .i64 t, .int .i64 c', .int .i64 k', .int .i64 a', .int .i64 t'] 29 (0, 0))).trans (g1.mono (by simp)))
  clear g1 bx x0 x1 x2 x3 x4 x5 x6 x7 x8 x9 x10 x11 x12 x13 x14 xf
  go_wp2_with fail
  go_ret2
  exact ans_below (ans_lit _ false [] (by decide)) BB1.out
end Go.Proofs.YtapjiffililmgaaDoor
