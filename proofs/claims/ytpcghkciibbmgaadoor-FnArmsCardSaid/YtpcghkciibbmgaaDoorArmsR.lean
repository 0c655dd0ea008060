/- Contract: the model's replaced tincture. -/
import Derived.Test.YtpcghkciibbmgaaDoorArmsS
import Derived.Test.YtpcghkciibbmgaaDoorArms5
import Derived.Deep.RegionWith
namespace Go.Proofs.YtpcghkciibbmgaaDoor
open Go.RowKit

set_option maxRecDepth 100000 in
set_option maxHeartbeats 8000000 in
theorem replace_1 (d l f s o n x c k a t c' k' a' t' old y : Int) (w : World) (h : old < 1 ∨ 9 < old) :
    Calls Tryd.prog 8 #[.agg #[.int .i64 d, .int .i64 l, .int .i64 f, .int .i64 s, .int .i64 o, .int .i64 n, .int .i64 x, .int .i64 c, .int .i64 k, .int .i64 a, .int .i64 t, .int .i64 c', .int .i64 k', .int .i64 a', .int .i64 t'], .int .i64 old, .int .i64 y] w (AnsA w 0 0 0 0 0 0 0 0 0 0 0 0 0 0 0 false) := by
  have C1 := Lib.hid (fun W => l2Good_no old W h)
  have bx := (BoxF.new w [.int .i64 d, .int .i64 l, .int .i64 f, .int .i64 s, .int .i64 o, .int .i64 n, .int .i64 x, .int .i64 c, .int .i64 k, .int .i64 a, .int .i64 t, .int .i64 c', .int .i64 k', .int .i64 a', .int .i64 t'] 29).alloc (.cells #[.int .i64 0, .int .i64 0, .int .i64 0, .int .i64 0, .int .i64 0, .int .i64 0, .int .i64 0, .int .i64 0, .int .i64 0, .int .i64 0, .int .i64 0, .int .i64 0, .int .i64 0, .int .i64 0, .int .i64 0] 29 (0, 0))
  have bz := BoxF.new (w.alloc (.cells #[.int .i64 d, .int .i64 l, .int .i64 f, .int .i64 s, .int .i64 o, .int .i64 n, .int .i64 x, .int .i64 c, .int .i64 k, .int .i64 a, .int .i64 t, .int .i64 c', .int .i64 k', .int .i64 a', .int .i64 t'] 29 (0, 0))) [.int .i64 0, .int .i64 0, .int .i64 0, .int .i64 0, .int .i64 0, .int .i64 0, .int .i64 0, .int .i64 0, .int .i64 0, .int .i64 0, .int .i64 0, .int .i64 0, .int .i64 0, .int .i64 0, .int .i64 0] 29
  simp only [World.size_alloc] at bz
  have bb : Below w.heap.size w ((w.alloc (.cells #[.int .i64 d, .int .i64 l, .int .i64 f, .int .i64 s, .int .i64 o, .int .i64 n, .int .i64 x, .int .i64 c, .int .i64 k, .int .i64 a, .int .i64 t, .int .i64 c', .int .i64 k', .int .i64 a', .int .i64 t'] 29 (0, 0))).alloc (.cells #[.int .i64 0, .int .i64 0, .int .i64 0, .int .i64 0, .int .i64 0, .int .i64 0, .int .i64 0, .int .i64 0, .int .i64 0, .int .i64 0, .int .i64 0, .int .i64 0, .int .i64 0, .int .i64 0, .int .i64 0] 29 (0, 0))) := ((Below.refl _ w).alloc (Nat.le_refl _) _).alloc (by simp) _
  clear h bx
  obtain ⟨z0, z1, z2, z3, z4, z5, z6, z7, z8, z9, z10, z11, z12, z13, z14, zf⟩ := bz.fifteen
  go_enter Tryd.func8, Tryd.ntmps8
  go_wp2_with fail
  refine (C1.out _).mono ?_
  rintro e w1 ⟨rfl, rfl⟩
  go_wp2_with fail
  exact bodyPost_ret (v := .tuple #[.agg #[.int .i64 0, .int .i64 0, .int .i64 0, .int .i64 0, .int .i64 0, .int .i64 0, .int .i64 0, .int .i64 0, .int .i64 0, .int .i64 0, .int .i64 0, .int .i64 0, .int .i64 0, .int .i64 0, .int .i64 0], .bool false]) (by simp [results, Tryd.results8, go_sem, z0, z1, z2, z3, z4, z5, z6, z7, z8, z9, z10, z11, z12, z13, z14]) rfl ⟨rfl, bb⟩
set_option maxRecDepth 100000 in
set_option maxHeartbeats 8000000 in
theorem replace_2 (d l f s o n x c k a t c' k' a' t' old y : Int) (w : World) (h0 : 1 ≤ old) (h1 : old ≤ 9) (h : y < 1 ∨ 9 < y) :
    Calls Tryd.prog 8 #[.agg #[.int .i64 d, .int .i64 l, .int .i64 f, .int .i64 s, .int .i64 o, .int .i64 n, .int .i64 x, .int .i64 c, .int .i64 k, .int .i64 a, .int .i64 t, .int .i64 c', .int .i64 k', .int .i64 a', .int .i64 t'], .int .i64 old, .int .i64 y] w (AnsA w 0 0 0 0 0 0 0 0 0 0 0 0 0 0 0 false) := by
  have C1 := Lib.hid (fun W => l2Good_yes old W h0 h1)
  have C2 := Lib.hid (fun W => l2Good_no y W h)
  have bx := (BoxF.new w [.int .i64 d, .int .i64 l, .int .i64 f, .int .i64 s, .int .i64 o, .int .i64 n, .int .i64 x, .int .i64 c, .int .i64 k, .int .i64 a, .int .i64 t, .int .i64 c', .int .i64 k', .int .i64 a', .int .i64 t'] 29).alloc (.cells #[.int .i64 0, .int .i64 0, .int .i64 0, .int .i64 0, .int .i64 0, .int .i64 0, .int .i64 0, .int .i64 0, .int .i64 0, .int .i64 0, .int .i64 0, .int .i64 0, .int .i64 0, .int .i64 0, .int .i64 0] 29 (0, 0))
  have bz := BoxF.new (w.alloc (.cells #[.int .i64 d, .int .i64 l, .int .i64 f, .int .i64 s, .int .i64 o, .int .i64 n, .int .i64 x, .int .i64 c, .int .i64 k, .int .i64 a, .int .i64 t, .int .i64 c', .int .i64 k', .int .i64 a', .int .i64 t'] 29 (0, 0))) [.int .i64 0, .int .i64 0, .int .i64 0, .int .i64 0, .int .i64 0, .int .i64 0, .int .i64 0, .int .i64 0, .int .i64 0, .int .i64 0, .int .i64 0, .int .i64 0, .int .i64 0, .int .i64 0, .int .i64 0] 29
  simp only [World.size_alloc] at bz
  have bb : Below w.heap.size w ((w.alloc (.cells #[.int .i64 d, .int .i64 l, .int .i64 f, .int .i64 s, .int .i64 o, .int .i64 n, .int .i64 x, .int .i64 c, .int .i64 k, .int .i64 a, .int .i64 t, .int .i64 c', .int .i64 k', .int .i64 a', .int .i64 t'] 29 (0, 0))).alloc (.cells #[.int .i64 0, .int .i64 0, .int .i64 0, .int .i64 0, .int .i64 0, .int .i64 0, .int .i64 0, .int .i64 0, .int .i64 0, .int .i64 0, .int .i64 0, .int .i64 0, .int .i64 0, .int .i64 0, .int .i64 0] 29 (0, 0))) := ((Below.refl _ w).alloc (Nat.le_refl _) _).alloc (by simp) _
  clear h h0 h1 bx
  obtain ⟨z0, z1, z2, z3, z4, z5, z6, z7, z8, z9, z10, z11, z12, z13, z14, zf⟩ := bz.fifteen
  go_enter Tryd.func8, Tryd.ntmps8
  go_wp2_with fail
  refine (C1.out _).mono ?_
  rintro e w1 ⟨rfl, rfl⟩
  go_wp2_with fail
  refine (C2.out _).mono ?_
  rintro e w1 ⟨rfl, rfl⟩
  go_wp2_with fail
  exact bodyPost_ret (v := .tuple #[.agg #[.int .i64 0, .int .i64 0, .int .i64 0, .int .i64 0, .int .i64 0, .int .i64 0, .int .i64 0, .int .i64 0, .int .i64 0, .int .i64 0, .int .i64 0, .int .i64 0, .int .i64 0, .int .i64 0, .int .i64 0], .bool false]) (by simp [results, Tryd.results8, go_sem, z0, z1, z2, z3, z4, z5, z6, z7, z8, z9, z10, z11, z12, z13, z14]) rfl ⟨rfl, bb⟩
set_option maxRecDepth 100000 in
set_option maxHeartbeats 8000000 in
theorem replace_3 (d l f s o n x c k a t c' k' a' t' old y : Int) (w : World) (h0 : 1 ≤ old) (h1 : old ≤ 9) (h2 : 1 ≤ y) (h3 : y ≤ 9) (r1 r2 r3 r4 r5 : Int) (e1 : (if f = old then y else f) = r1) (e2 : (if s = old then y else s) = r2) (e3 : (if x = old then y else x) = r3) (e4 : (if t = old then y else t) = r4) (e5 : (if t' = old then y else t') = r5) (hg : (aOkB d l f s o n x c k a t c' k' a' t' && aOkB d l r1 r2 o n r3 c k a r4 c' k' a' r5) = true) :
    Calls Tryd.prog 8 #[.agg #[.int .i64 d, .int .i64 l, .int .i64 f, .int .i64 s, .int .i64 o, .int .i64 n, .int .i64 x, .int .i64 c, .int .i64 k, .int .i64 a, .int .i64 t, .int .i64 c', .int .i64 k', .int .i64 a', .int .i64 t'], .int .i64 old, .int .i64 y] w (AnsA w d l r1 r2 o n r3 c k a r4 c' k' a' r5 true) := by
  have C1 := Lib.hid (fun W => l2Good_yes old W h0 h1)
  have C2 := Lib.hid (fun W => l2Good_yes y W h2 h3)
  have cr := fun W => l5Replace_any d l f s o n x c k a t c' k' a' t' old y W
  rw [e1, e2, e3, e4, e5] at cr
  have ck := fun W => l5Checked_any d l f s o n x c k a t c' k' a' t' d l r1 r2 o n r3 c k a r4 c' k' a' r5 W true hg
  simp only [if_true] at ck
  have CR := Lib.hid cr
  have CK := Lib.hid ck
  have bx := (BoxF.new w [.int .i64 d, .int .i64 l, .int .i64 f, .int .i64 s, .int .i64 o, .int .i64 n, .int .i64 x, .int .i64 c, .int .i64 k, .int .i64 a, .int .i64 t, .int .i64 c', .int .i64 k', .int .i64 a', .int .i64 t'] 29).alloc (.cells #[.int .i64 0, .int .i64 0, .int .i64 0, .int .i64 0, .int .i64 0, .int .i64 0, .int .i64 0, .int .i64 0, .int .i64 0, .int .i64 0, .int .i64 0, .int .i64 0, .int .i64 0, .int .i64 0, .int .i64 0] 29 (0, 0))
  have bz := BoxF.new (w.alloc (.cells #[.int .i64 d, .int .i64 l, .int .i64 f, .int .i64 s, .int .i64 o, .int .i64 n, .int .i64 x, .int .i64 c, .int .i64 k, .int .i64 a, .int .i64 t, .int .i64 c', .int .i64 k', .int .i64 a', .int .i64 t'] 29 (0, 0))) [.int .i64 0, .int .i64 0, .int .i64 0, .int .i64 0, .int .i64 0, .int .i64 0, .int .i64 0, .int .i64 0, .int .i64 0, .int .i64 0, .int .i64 0, .int .i64 0, .int .i64 0, .int .i64 0, .int .i64 0] 29
  simp only [World.size_alloc] at bz
  have bb : Below w.heap.size w ((w.alloc (.cells #[.int .i64 d, .int .i64 l, .int .i64 f, .int .i64 s, .int .i64 o, .int .i64 n, .int .i64 x, .int .i64 c, .int .i64 k, .int .i64 a, .int .i64 t, .int .i64 c', .int .i64 k', .int .i64 a', .int .i64 t'] 29 (0, 0))).alloc (.cells #[.int .i64 0, .int .i64 0, .int .i64 0, .int .i64 0, .int .i64 0, .int .i64 0, .int .i64 0, .int .i64 0, .int .i64 0, .int .i64 0, .int .i64 0, .int .i64 0, .int .i64 0, .int .i64 0, .int .i64 0] 29 (0, 0))) := ((Below.refl _ w).alloc (Nat.le_refl _) _).alloc (by simp) _
  have BX := Lib.hid bx
  have BZ := Lib.hid bz
  have BB := Lib.hid bb
  clear h0 h1 h2 h3 e1 e2 e3 e4 e5 hg cr ck bz bb
  obtain ⟨x0, x1, x2, x3, x4, x5, x6, x7, x8, x9, x10, x11, x12, x13, x14, xf⟩ := bx.fifteen
  clear bx
  go_enter Tryd.func8, Tryd.ntmps8
  go_wp2_with fail
  refine (C1.out _).mono ?_
  rintro e w1 ⟨rfl, rfl⟩
  go_wp2_with fail
  refine (C2.out _).mono ?_
  rintro e w1 ⟨rfl, rfl⟩
  generalize ((w.alloc (.cells #[.int .i64 d, .int .i64 l, .int .i64 f, .int .i64 s, .int .i64 o, .int .i64 n, .int .i64 x, .int .i64 c, .int .i64 k, .int .i64 a, .int .i64 t, .int .i64 c', .int .i64 k', .int .i64 a', .int .i64 t'] 29 (0, 0))).alloc (.cells #[.int .i64 0, .int .i64 0, .int .i64 0, .int .i64 0, .int .i64 0, .int .i64 0, .int .i64 0, .int .i64 0, .int .i64 0, .int .i64 0, .int .i64 0, .int .i64 0, .int .i64 0, .int .i64 0, .int .i64 0] 29 (0, 0))) = W0 at *
  go_wp2_with fail
  go_region_with (first
    | (go_at_call 32; (with_reducible refine (CR.out _).mono ?_); rintro e w3 ⟨rfl, g1⟩; have hA : Below W0.heap.size W0 w3 := ⟨g1.os, g1.tape, g1.output, g1.size, g1.block⟩; have bp := BX.out.below hA; obtain ⟨p0, p1, p2, p3, p4, p5, p6, p7, p8, p9, p10, p11, p12, p13, p14, pf⟩ := bp.fifteen; have BZ3 := Lib.hid (BZ.out.below hA); have BB3 := Lib.hid (BB.out.trans (hA.mono BB.out.size)); clear hA g1 bp)
    | (go_at_call 31; (with_reducible refine (CK.out _).mono ?_); rintro e w4 ⟨rfl, g1⟩; have hB : Below w3.heap.size w3 w4 := ⟨g1.os, g1.tape, g1.output, g1.size, g1.block⟩; have bq := BZ3.out.below hB; have BQ := Lib.hid bq; obtain ⟨z0, z1, z2, z3, z4, z5, z6, z7, z8, z9, z10, z11, z12, z13, z14, zf⟩ := bq.fifteen; have BB4 := Lib.hid (BB3.out.trans (hB.mono BB3.out.size)); clear hB g1 bq))
  all_goals
    go_wp2_with fail
    have BR := BoxF.all15 (v0 := .int .i64 d) (v1 := .int .i64 l) (v2 := .int .i64 r1) (v3 := .int .i64 r2) (v4 := .int .i64 o) (v5 := .int .i64 n) (v6 := .int .i64 r3) (v7 := .int .i64 c) (v8 := .int .i64 k) (v9 := .int .i64 a) (v10 := .int .i64 r4) (v11 := .int .i64 c') (v12 := .int .i64 k') (v13 := .int .i64 a') (v14 := .int .i64 r5) (b := w.heap.size + 1) BQ.out
    have BE := BB4.out.grown (grown15 w4 (w.heap.size + 1) (.int .i64 d) (.int .i64 l) (.int .i64 r1) (.int .i64 r2) (.int .i64 o) (.int .i64 n) (.int .i64 r3) (.int .i64 c) (.int .i64 k) (.int .i64 a) (.int .i64 r4) (.int .i64 c') (.int .i64 k') (.int .i64 a') (.int .i64 r5)) BB4.out.size (fun q e => by cases e; omega)
    clear z0 z1 z2 z3 z4 z5 z6 z7 z8 z9 z10 z11 z12 z13 z14 zf
    generalize (((((((((((((((w4.setCell ⟨w.heap.size + 1, 0, none⟩ (.int .i64 d)).setCell ⟨w.heap.size + 1, 1, none⟩ (.int .i64 l)).setCell ⟨w.heap.size + 1, 2, none⟩ (.int .i64 r1)).setCell ⟨w.heap.size + 1, 3, none⟩ (.int .i64 r2)).setCell ⟨w.heap.size + 1, 4, none⟩ (.int .i64 o)).setCell ⟨w.heap.size + 1, 5, none⟩ (.int .i64 n)).setCell ⟨w.heap.size + 1, 6, none⟩ (.int .i64 r3)).setCell ⟨w.heap.size + 1, 7, none⟩ (.int .i64 c)).setCell ⟨w.heap.size + 1, 8, none⟩ (.int .i64 k)).setCell ⟨w.heap.size + 1, 9, none⟩ (.int .i64 a)).setCell ⟨w.heap.size + 1, 10, none⟩ (.int .i64 r4)).setCell ⟨w.heap.size + 1, 11, none⟩ (.int .i64 c')).setCell ⟨w.heap.size + 1, 12, none⟩ (.int .i64 k')).setCell ⟨w.heap.size + 1, 13, none⟩ (.int .i64 a')).setCell ⟨w.heap.size + 1, 14, none⟩ (.int .i64 r5)) = W5 at *
    obtain ⟨z0, z1, z2, z3, z4, z5, z6, z7, z8, z9, z10, z11, z12, z13, z14, zf⟩ := BR.fifteen
    exact bodyPost_ret (v := .tuple #[.agg #[.int .i64 d, .int .i64 l, .int .i64 r1, .int .i64 r2, .int .i64 o, .int .i64 n, .int .i64 r3, .int .i64 c, .int .i64 k, .int .i64 a, .int .i64 r4, .int .i64 c', .int .i64 k', .int .i64 a', .int .i64 r5], .bool true]) (by simp [results, Tryd.results8, go_sem, z0, z1, z2, z3, z4, z5, z6, z7, z8, z9, z10, z11, z12, z13, z14]) rfl ⟨rfl, BE⟩
set_option maxRecDepth 100000 in
set_option maxHeartbeats 8000000 in
theorem replace_4 (d l f s o n x c k a t c' k' a' t' old y : Int) (w : World) (h0 : 1 ≤ old) (h1 : old ≤ 9) (h2 : 1 ≤ y) (h3 : y ≤ 9) (r1 r2 r3 r4 r5 : Int) (e1 : (if f = old then y else f) = r1) (e2 : (if s = old then y else s) = r2) (e3 : (if x = old then y else x) = r3) (e4 : (if t = old then y else t) = r4) (e5 : (if t' = old then y else t') = r5) (hg : (aOkB d l f s o n x c k a t c' k' a' t' && aOkB d l r1 r2 o n r3 c k a r4 c' k' a' r5) = false) :
    Calls Tryd.prog 8 #[.agg #[.int .i64 d, .int .i64 l, .int .i64 f, .int .i64 s, .int .i64 o, .int .i64 n, .int .i64 x, .int .i64 c, .int .i64 k, .int .i64 a, .int .i64 t, .int .i64 c', .int .i64 k', .int .i64 a', .int .i64 t'], .int .i64 old, .int .i64 y] w (AnsA w 0 0 0 0 0 0 0 0 0 0 0 0 0 0 0 false) := by
  have C1 := Lib.hid (fun W => l2Good_yes old W h0 h1)
  have C2 := Lib.hid (fun W => l2Good_yes y W h2 h3)
  have cr := fun W => l5Replace_any d l f s o n x c k a t c' k' a' t' old y W
  rw [e1, e2, e3, e4, e5] at cr
  have ck := fun W => l5Checked_any d l f s o n x c k a t c' k' a' t' d l r1 r2 o n r3 c k a r4 c' k' a' r5 W false hg
  simp only [Bool.false_eq_true, if_false] at ck
  have CR := Lib.hid cr
  have CK := Lib.hid ck
  have bx := (BoxF.new w [.int .i64 d, .int .i64 l, .int .i64 f, .int .i64 s, .int .i64 o, .int .i64 n, .int .i64 x, .int .i64 c, .int .i64 k, .int .i64 a, .int .i64 t, .int .i64 c', .int .i64 k', .int .i64 a', .int .i64 t'] 29).alloc (.cells #[.int .i64 0, .int .i64 0, .int .i64 0, .int .i64 0, .int .i64 0, .int .i64 0, .int .i64 0, .int .i64 0, .int .i64 0, .int .i64 0, .int .i64 0, .int .i64 0, .int .i64 0, .int .i64 0, .int .i64 0] 29 (0, 0))
  have bz := BoxF.new (w.alloc (.cells #[.int .i64 d, .int .i64 l, .int .i64 f, .int .i64 s, .int .i64 o, .int .i64 n, .int .i64 x, .int .i64 c, .int .i64 k, .int .i64 a, .int .i64 t, .int .i64 c', .int .i64 k', .int .i64 a', .int .i64 t'] 29 (0, 0))) [.int .i64 0, .int .i64 0, .int .i64 0, .int .i64 0, .int .i64 0, .int .i64 0, .int .i64 0, .int .i64 0, .int .i64 0, .int .i64 0, .int .i64 0, .int .i64 0, .int .i64 0, .int .i64 0, .int .i64 0] 29
  simp only [World.size_alloc] at bz
  have bb : Below w.heap.size w ((w.alloc (.cells #[.int .i64 d, .int .i64 l, .int .i64 f, .int .i64 s, .int .i64 o, .int .i64 n, .int .i64 x, .int .i64 c, .int .i64 k, .int .i64 a, .int .i64 t, .int .i64 c', .int .i64 k', .int .i64 a', .int .i64 t'] 29 (0, 0))).alloc (.cells #[.int .i64 0, .int .i64 0, .int .i64 0, .int .i64 0, .int .i64 0, .int .i64 0, .int .i64 0, .int .i64 0, .int .i64 0, .int .i64 0, .int .i64 0, .int .i64 0, .int .i64 0, .int .i64 0, .int .i64 0] 29 (0, 0))) := ((Below.refl _ w).alloc (Nat.le_refl _) _).alloc (by simp) _
  have BX := Lib.hid bx
  have BZ := Lib.hid bz
  have BB := Lib.hid bb
  clear h0 h1 h2 h3 e1 e2 e3 e4 e5 hg cr ck bz bb
  obtain ⟨x0, x1, x2, x3, x4, x5, x6, x7, x8, x9, x10, x11, x12, x13, x14, xf⟩ := bx.fifteen
  clear bx
  go_enter Tryd.func8, Tryd.ntmps8
  go_wp2_with fail
  refine (C1.out _).mono ?_
  rintro e w1 ⟨rfl, rfl⟩
  go_wp2_with fail
  refine (C2.out _).mono ?_
  rintro e w1 ⟨rfl, rfl⟩
  generalize ((w.alloc (.cells #[.int .i64 d, .int .i64 l, .int .i64 f, .int .i64 s, .int .i64 o, .int .i64 n, .int .i64 x, .int .i64 c, .int .i64 k, .int .i64 a, .int .i64 t, .int .i64 c', .int .i64 k', .int .i64 a', .int .i64 t'] 29 (0, 0))).alloc (.cells #[.int .i64 0, .int .i64 0, .int .i64 0, .int .i64 0, .int .i64 0, .int .i64 0, .int .i64 0, .int .i64 0, .int .i64 0, .int .i64 0, .int .i64 0, .int .i64 0, .int .i64 0, .int .i64 0, .int .i64 0] 29 (0, 0))) = W0 at *
  go_wp2_with fail
  go_region_with (first
    | (go_at_call 32; (with_reducible refine (CR.out _).mono ?_); rintro e w3 ⟨rfl, g1⟩; have hA : Below W0.heap.size W0 w3 := ⟨g1.os, g1.tape, g1.output, g1.size, g1.block⟩; have bp := BX.out.below hA; obtain ⟨p0, p1, p2, p3, p4, p5, p6, p7, p8, p9, p10, p11, p12, p13, p14, pf⟩ := bp.fifteen; have BZ3 := Lib.hid (BZ.out.below hA); have BB3 := Lib.hid (BB.out.trans (hA.mono BB.out.size)); clear hA g1 bp)
    | (go_at_call 31; (with_reducible refine (CK.out _).mono ?_); rintro e w4 ⟨rfl, g1⟩; have hB : Below w3.heap.size w3 w4 := ⟨g1.os, g1.tape, g1.output, g1.size, g1.block⟩; have bq := BZ3.out.below hB; have BQ := Lib.hid bq; obtain ⟨z0, z1, z2, z3, z4, z5, z6, z7, z8, z9, z10, z11, z12, z13, z14, zf⟩ := bq.fifteen; have BB4 := Lib.hid (BB3.out.trans (hB.mono BB3.out.size)); clear hB g1 bq))
  all_goals
    go_wp2_with fail
    have BR := BoxF.all15 (v0 := .int .i64 0) (v1 := .int .i64 0) (v2 := .int .i64 0) (v3 := .int .i64 0) (v4 := .int .i64 0) (v5 := .int .i64 0) (v6 := .int .i64 0) (v7 := .int .i64 0) (v8 := .int .i64 0) (v9 := .int .i64 0) (v10 := .int .i64 0) (v11 := .int .i64 0) (v12 := .int .i64 0) (v13 := .int .i64 0) (v14 := .int .i64 0) (b := w.heap.size + 1) BQ.out
    have BE := BB4.out.grown (grown15 w4 (w.heap.size + 1) (.int .i64 0) (.int .i64 0) (.int .i64 0) (.int .i64 0) (.int .i64 0) (.int .i64 0) (.int .i64 0) (.int .i64 0) (.int .i64 0) (.int .i64 0) (.int .i64 0) (.int .i64 0) (.int .i64 0) (.int .i64 0) (.int .i64 0)) BB4.out.size (fun q e => by cases e; omega)
    clear z0 z1 z2 z3 z4 z5 z6 z7 z8 z9 z10 z11 z12 z13 z14 zf
    generalize (((((((((((((((w4.setCell ⟨w.heap.size + 1, 0, none⟩ (.int .i64 0)).setCell ⟨w.heap.size + 1, 1, none⟩ (.int .i64 0)).setCell ⟨w.heap.size + 1, 2, none⟩ (.int .i64 0)).setCell ⟨w.heap.size + 1, 3, none⟩ (.int .i64 0)).setCell ⟨w.heap.size + 1, 4, none⟩ (.int .i64 0)).setCell ⟨w.heap.size + 1, 5, none⟩ (.int .i64 0)).setCell ⟨w.heap.size + 1, 6, none⟩ (.int .i64 0)).setCell ⟨w.heap.size + 1, 7, none⟩ (.int .i64 0)).setCell ⟨w.heap.size + 1, 8, none⟩ (.int .i64 0)).setCell ⟨w.heap.size + 1, 9, none⟩ (.int .i64 0)).setCell ⟨w.heap.size + 1, 10, none⟩ (.int .i64 0)).setCell ⟨w.heap.size + 1, 11, none⟩ (.int .i64 0)).setCell ⟨w.heap.size + 1, 12, none⟩ (.int .i64 0)).setCell ⟨w.heap.size + 1, 13, none⟩ (.int .i64 0)).setCell ⟨w.heap.size + 1, 14, none⟩ (.int .i64 0)) = W5 at *
    obtain ⟨z0, z1, z2, z3, z4, z5, z6, z7, z8, z9, z10, z11, z12, z13, z14, zf⟩ := BR.fifteen
    exact bodyPost_ret (v := .tuple #[.agg #[.int .i64 0, .int .i64 0, .int .i64 0, .int .i64 0, .int .i64 0, .int .i64 0, .int .i64 0, .int .i64 0, .int .i64 0, .int .i64 0, .int .i64 0, .int .i64 0, .int .i64 0, .int .i64 0, .int .i64 0], .bool false]) (by simp [results, Tryd.results8, go_sem, z0, z1, z2, z3, z4, z5, z6, z7, z8, z9, z10, z11, z12, z13, z14]) rfl ⟨rfl, BE⟩
end Go.Proofs.YtpcghkciibbmgaaDoor
