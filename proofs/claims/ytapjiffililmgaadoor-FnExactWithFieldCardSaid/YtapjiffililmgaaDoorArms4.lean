/- Contracts: the model's tinctures of arms. -/
import Derived.Test.YtapjiffililmgaaDoorArms3
namespace Go.Proofs.YtapjiffililmgaaDoor
open Go.RowKit

/-- The tinctures of the layers. -/
def armTL (d f s o x : Int) (z1 z2 : Bool) (t t' : Int) : List Int := tincL d f s ++ (if 0 < o then [x] else []) ++ (if z1 = true then [] else [t]) ++ (if z2 = true then [] else [t'])
theorem infoI5 : (Tryd.prog.info? 3).map (fun i => (i.zero, i.size, i.bytes)) = some (some (.int .i64 0), 1, 8) := by kernel_rfl
set_option maxRecDepth 100000 in
set_option maxHeartbeats 8000000 in
theorem l5Tinctures_any (d l f s o n x c k a t c' k' a' t' : Int) (w : World) :
    Calls Tryd.prog 71 #[.agg #[.int .i64 d, .int .i64 l, .int .i64 f, .int .i64 s, .int .i64 o, .int .i64 n, .int .i64 x, .int .i64 c, .int .i64 k, .int .i64 a, .int .i64 t, .int .i64 c', .int .i64 k', .int .i64 a', .int .i64 t']] w (AnsL w (armTL d f s o x (gNoB c k a t) (gNoB c' k' a' t') t t')) := by
  obtain ⟨i0, hi, hz0, hz1, hz2⟩ := info_parts infoI5
  obtain ⟨z1, h1⟩ : ∃ p, gNoB c k a t = p := ⟨_, rfl⟩
  obtain ⟨z2, h2⟩ : ∃ p, gNoB c' k' a' t' = p := ⟨_, rfl⟩
  obtain ⟨p, h3⟩ : ∃ p, decide (0 < o) = p := ⟨_, rfl⟩
  have C1 := Lib.hid (fun W => l4None_any c k a t W z1 h1)
  have C2 := Lib.hid (fun W => l4None_any c' k' a' t' W z2 h2)
  have hR : armTL d f s o x (gNoB c k a t) (gNoB c' k' a' t') t t' = tincL d f s ++ (if p = true then [x] else []) ++ (if z1 = true then [] else [t]) ++ (if z2 = true then [] else [t']) := by
    unfold armTL
    rw [h1, h2, ← h3]
    by_cases h : 0 < o <;> simp [h]
  rw [hR]
  have ct := fun W => l3Tinctures_any d l f s W
  unfold AnsL at ct
  have hl2 := tincL_len d f s
  have hl1 : 0 < (tincL d f s).length := by unfold tincL; split <;> simp
  generalize tincL d f s = T at *
  obtain ⟨N, hN⟩ : ∃ N, T.length = N := ⟨_, rfl⟩
  rw [hN] at hl1 hl2 ct
  have CT := Lib.hid ct
  have BX := Lib.hid (BoxF.new w [.int .i64 d, .int .i64 l, .int .i64 f, .int .i64 s, .int .i64 o, .int .i64 n, .int .i64 x, .int .i64 c, .int .i64 k, .int .i64 a, .int .i64 t, .int .i64 c', .int .i64 k', .int .i64 a', .int .i64 t'] 29)
  have BB : Hid (Below w.heap.size w (w.alloc (.cells #[.int .i64 d, .int .i64 l, .int .i64 f, .int .i64 s, .int .i64 o, .int .i64 n, .int .i64 x, .int .i64 c, .int .i64 k, .int .i64 a, .int .i64 t, .int .i64 c', .int .i64 k', .int .i64 a', .int .i64 t'] 29 (0, 0)))) := Lib.hid ((Below.refl _ w).alloc (Nat.le_refl _) _)
  clear h1 h2 hR ct
  cases p
  · cases z1
    · cases z2
      · have bx := BX.out
        obtain ⟨x0, x1, x2, x3, x4, x5, x6, x7, x8, x9, x10, x11, x12, x13, x14, xf⟩ := bx.fifteen
        go_enter Tryd.func71, Tryd.ntmps71
        go_wp2_with fail
        refine (CT.out _).mono ?_
        rintro e w1 ⟨ga, gc, rfl, ho, g1⟩
        clear x0 x1 x2 x3 x4 x5 x6 x7 x8 x9 x10 x11 x12 x13 x14 xf
        have HW1 : w1.ownsRow (w.heap.size + 1) 3 1 (.slice ga N gc) N (T.map (Value.int .i64)) := by have h := ho; rw [World.size_alloc] at h; exact h
        obtain ⟨g0, cp0, hv0, hge0, hlt0⟩ := World.ownsRow.form HW1 (by omega)
        cases hv0
        have HO0 := Lib.hid HW1
        have BX1 := Lib.hid (bx.below g1)
        have BB1 := Lib.hid (BB.out.trans (g1.mono BB.out.size))
        clear g1 bx ho HW1
        have bx := BX1.out
        obtain ⟨x0, x1, x2, x3, x4, x5, x6, x7, x8, x9, x10, x11, x12, x13, x14, xf⟩ := bx.fifteen
        go_wp2_with fail
        refine (C1.out _).mono ?_
        rintro e w2 ⟨rfl, g1⟩
        clear x0 x1 x2 x3 x4 x5 x6 x7 x8 x9 x10 x11 x12 x13 x14 xf
        have hgb : w1.grownBy w2 none := ⟨g1.os, g1.tape, g1.output, g1.size, fun i hi _ => g1.block i hi⟩
        have HO1 := Lib.hid (World.ownsRow.kept HO0.out hgb (.inr (by simp [Value.ownBlock])))
        have hz12 := g1.size
        have BX2_ := Lib.hid (bx.below g1)
        have BB2_ := Lib.hid (BB1.out.trans (g1.mono BB1.out.size))
        clear g1 bx hgb
        have bx := BX2_.out
        obtain ⟨x0, x1, x2, x3, x4, x5, x6, x7, x8, x9, x10, x11, x12, x13, x14, xf⟩ := bx.fifteen
        go_wp2_with (at_builtin; refine wpList_append_own _ rfl _ _ 35 rfl (w.heap.size + 1) 3 i0 (.int .i64 0) 1 8 Tryd.underlying35 hi hz0 hz1 hz2 rfl (by decide) _ _ _ rfl (HO1.out.alloc _) ⟨w2.heap.size, 0, none⟩ 1 1 [.int .i64 t] rfl rfl (cell_one_new _ _ _) (fun u hu => by simp at hu; subst hu; rfl) (by unfold maxLen; omega) (by omega) (by have := BX2_.out.lt; simp; omega) ?_; intro v2 u2 hown2 hgrow2 _; have hgg2 : (w2.alloc (.cells #[.int .i64 t] 3 (0, 0))).grownBy u2 (some g0) := hgrow2; obtain ⟨g2, cp2, rfl, hge2, hlt2⟩ := World.ownsRow.form hown2 (by omega); have bx := (BX2_.out.alloc (.cells #[.int .i64 t] 3 (0, 0))).kept hgg2 (by simp; omega); obtain ⟨x0, x1, x2, x3, x4, x5, x6, x7, x8, x9, x10, x11, x12, x13, x14, xf⟩ := bx.fifteen)
        have HO2 : Hid (u2.ownsRow (w.heap.size + 1) 3 1 (.slice (some ⟨g2, 0, none⟩) (N + 1) cp2) (N + 1) ((T ++ [t]).map (Value.int .i64))) := Lib.hid (by have h := hown2; simpa [Nat.add_assoc] using h)
        have BX1_2 := Lib.hid bx
        have BB1_2 := Lib.hid ((BB2_.out.alloc BB2_.out.size (.cells #[.int .i64 t] 3 (0, 0))).grown hgg2 (by have := BB2_.out.size; simp; omega) (fun q hq => by cases hq; omega))
        clear hgg2 hgrow2 hown2
        refine (C2.out _).mono ?_
        rintro e w3 ⟨rfl, g1⟩
        clear x0 x1 x2 x3 x4 x5 x6 x7 x8 x9 x10 x11 x12 x13 x14 xf
        have hgb : u2.grownBy w3 none := ⟨g1.os, g1.tape, g1.output, g1.size, fun i hi _ => g1.block i hi⟩
        have HO3 := Lib.hid (World.ownsRow.kept HO2.out hgb (.inr (by simp [Value.ownBlock])))
        have hz13 := g1.size
        have BX3_ := Lib.hid (bx.below g1)
        have BB3_ := Lib.hid (BB1_2.out.trans (g1.mono BB1_2.out.size))
        clear g1 bx hgb
        have bx := BX3_.out
        obtain ⟨x0, x1, x2, x3, x4, x5, x6, x7, x8, x9, x10, x11, x12, x13, x14, xf⟩ := bx.fifteen
        go_wp2_with (at_builtin; refine wpList_append_own _ rfl _ _ 35 rfl (w.heap.size + 1) 3 i0 (.int .i64 0) 1 8 Tryd.underlying35 hi hz0 hz1 hz2 rfl (by decide) _ _ _ rfl (HO3.out.alloc _) ⟨w3.heap.size, 0, none⟩ 1 1 [.int .i64 t'] rfl rfl (cell_one_new _ _ _) (fun u hu => by simp at hu; subst hu; rfl) (by unfold maxLen; omega) (by omega) (by have := BX3_.out.lt; simp; omega) ?_; intro v4 u4 hown4 hgrow4 _; have hgg4 : (w3.alloc (.cells #[.int .i64 t'] 3 (0, 0))).grownBy u4 (some g2) := hgrow4; obtain ⟨g4, cp4, rfl, hge4, hlt4⟩ := World.ownsRow.form hown4 (by omega); have bx := (BX3_.out.alloc (.cells #[.int .i64 t'] 3 (0, 0))).kept hgg4 (by simp; omega); obtain ⟨x0, x1, x2, x3, x4, x5, x6, x7, x8, x9, x10, x11, x12, x13, x14, xf⟩ := bx.fifteen)
        have HO4 : Hid (u4.ownsRow (w.heap.size + 1) 3 1 (.slice (some ⟨g4, 0, none⟩) (N + 2) cp4) (N + 2) ((T ++ [t, t']).map (Value.int .i64))) := Lib.hid (by have h := hown4; simpa [Nat.add_assoc] using h)
        have BX1_4 := Lib.hid bx
        have BB1_4 := Lib.hid ((BB3_.out.alloc BB3_.out.size (.cells #[.int .i64 t'] 3 (0, 0))).grown hgg4 (by have := BB3_.out.size; simp; omega) (fun q hq => by cases hq; omega))
        clear hgg4 hgrow4 hown4
        go_ret
        refine ⟨some ⟨g4, 0, none⟩, cp4, ?_, ?_, BB1_4.out⟩
        · simp [hN]
        · have h := row_low (b' := w.heap.size) HO4.out (by omega)
          unfold OwnI
          simpa [hN] using h
      · have bx := BX.out
        obtain ⟨x0, x1, x2, x3, x4, x5, x6, x7, x8, x9, x10, x11, x12, x13, x14, xf⟩ := bx.fifteen
        go_enter Tryd.func71, Tryd.ntmps71
        go_wp2_with fail
        refine (CT.out _).mono ?_
        rintro e w1 ⟨ga, gc, rfl, ho, g1⟩
        clear x0 x1 x2 x3 x4 x5 x6 x7 x8 x9 x10 x11 x12 x13 x14 xf
        have HW1 : w1.ownsRow (w.heap.size + 1) 3 1 (.slice ga N gc) N (T.map (Value.int .i64)) := by have h := ho; rw [World.size_alloc] at h; exact h
        obtain ⟨g0, cp0, hv0, hge0, hlt0⟩ := World.ownsRow.form HW1 (by omega)
        cases hv0
        have HO0 := Lib.hid HW1
        have BX1 := Lib.hid (bx.below g1)
        have BB1 := Lib.hid (BB.out.trans (g1.mono BB.out.size))
        clear g1 bx ho HW1
        have bx := BX1.out
        obtain ⟨x0, x1, x2, x3, x4, x5, x6, x7, x8, x9, x10, x11, x12, x13, x14, xf⟩ := bx.fifteen
        go_wp2_with fail
        refine (C1.out _).mono ?_
        rintro e w2 ⟨rfl, g1⟩
        clear x0 x1 x2 x3 x4 x5 x6 x7 x8 x9 x10 x11 x12 x13 x14 xf
        have hgb : w1.grownBy w2 none := ⟨g1.os, g1.tape, g1.output, g1.size, fun i hi _ => g1.block i hi⟩
        have HO1 := Lib.hid (World.ownsRow.kept HO0.out hgb (.inr (by simp [Value.ownBlock])))
        have hz12 := g1.size
        have BX2_ := Lib.hid (bx.below g1)
        have BB2_ := Lib.hid (BB1.out.trans (g1.mono BB1.out.size))
        clear g1 bx hgb
        have bx := BX2_.out
        obtain ⟨x0, x1, x2, x3, x4, x5, x6, x7, x8, x9, x10, x11, x12, x13, x14, xf⟩ := bx.fifteen
        go_wp2_with (at_builtin; refine wpList_append_own _ rfl _ _ 35 rfl (w.heap.size + 1) 3 i0 (.int .i64 0) 1 8 Tryd.underlying35 hi hz0 hz1 hz2 rfl (by decide) _ _ _ rfl (HO1.out.alloc _) ⟨w2.heap.size, 0, none⟩ 1 1 [.int .i64 t] rfl rfl (cell_one_new _ _ _) (fun u hu => by simp at hu; subst hu; rfl) (by unfold maxLen; omega) (by omega) (by have := BX2_.out.lt; simp; omega) ?_; intro v2 u2 hown2 hgrow2 _; have hgg2 : (w2.alloc (.cells #[.int .i64 t] 3 (0, 0))).grownBy u2 (some g0) := hgrow2; obtain ⟨g2, cp2, rfl, hge2, hlt2⟩ := World.ownsRow.form hown2 (by omega); have bx := (BX2_.out.alloc (.cells #[.int .i64 t] 3 (0, 0))).kept hgg2 (by simp; omega); obtain ⟨x0, x1, x2, x3, x4, x5, x6, x7, x8, x9, x10, x11, x12, x13, x14, xf⟩ := bx.fifteen)
        have HO2 : Hid (u2.ownsRow (w.heap.size + 1) 3 1 (.slice (some ⟨g2, 0, none⟩) (N + 1) cp2) (N + 1) ((T ++ [t]).map (Value.int .i64))) := Lib.hid (by have h := hown2; simpa [Nat.add_assoc] using h)
        have BX1_2 := Lib.hid bx
        have BB1_2 := Lib.hid ((BB2_.out.alloc BB2_.out.size (.cells #[.int .i64 t] 3 (0, 0))).grown hgg2 (by have := BB2_.out.size; simp; omega) (fun q hq => by cases hq; omega))
        clear hgg2 hgrow2 hown2
        refine (C2.out _).mono ?_
        rintro e w3 ⟨rfl, g1⟩
        clear x0 x1 x2 x3 x4 x5 x6 x7 x8 x9 x10 x11 x12 x13 x14 xf
        have hgb : u2.grownBy w3 none := ⟨g1.os, g1.tape, g1.output, g1.size, fun i hi _ => g1.block i hi⟩
        have HO3 := Lib.hid (World.ownsRow.kept HO2.out hgb (.inr (by simp [Value.ownBlock])))
        have hz13 := g1.size
        have BX3_ := Lib.hid (bx.below g1)
        have BB3_ := Lib.hid (BB1_2.out.trans (g1.mono BB1_2.out.size))
        clear g1 bx hgb
        have bx := BX3_.out
        obtain ⟨x0, x1, x2, x3, x4, x5, x6, x7, x8, x9, x10, x11, x12, x13, x14, xf⟩ := bx.fifteen
        go_wp2_with fail
        go_ret
        refine ⟨some ⟨g2, 0, none⟩, cp2, ?_, ?_, BB3_.out⟩
        · simp [hN]
        · have h := row_low (b' := w.heap.size) HO3.out (by omega)
          unfold OwnI
          simpa [hN] using h
    · cases z2
      · have bx := BX.out
        obtain ⟨x0, x1, x2, x3, x4, x5, x6, x7, x8, x9, x10, x11, x12, x13, x14, xf⟩ := bx.fifteen
        go_enter Tryd.func71, Tryd.ntmps71
        go_wp2_with fail
        refine (CT.out _).mono ?_
        rintro e w1 ⟨ga, gc, rfl, ho, g1⟩
        clear x0 x1 x2 x3 x4 x5 x6 x7 x8 x9 x10 x11 x12 x13 x14 xf
        have HW1 : w1.ownsRow (w.heap.size + 1) 3 1 (.slice ga N gc) N (T.map (Value.int .i64)) := by have h := ho; rw [World.size_alloc] at h; exact h
        obtain ⟨g0, cp0, hv0, hge0, hlt0⟩ := World.ownsRow.form HW1 (by omega)
        cases hv0
        have HO0 := Lib.hid HW1
        have BX1 := Lib.hid (bx.below g1)
        have BB1 := Lib.hid (BB.out.trans (g1.mono BB.out.size))
        clear g1 bx ho HW1
        have bx := BX1.out
        obtain ⟨x0, x1, x2, x3, x4, x5, x6, x7, x8, x9, x10, x11, x12, x13, x14, xf⟩ := bx.fifteen
        go_wp2_with fail
        refine (C1.out _).mono ?_
        rintro e w2 ⟨rfl, g1⟩
        clear x0 x1 x2 x3 x4 x5 x6 x7 x8 x9 x10 x11 x12 x13 x14 xf
        have hgb : w1.grownBy w2 none := ⟨g1.os, g1.tape, g1.output, g1.size, fun i hi _ => g1.block i hi⟩
        have HO1 := Lib.hid (World.ownsRow.kept HO0.out hgb (.inr (by simp [Value.ownBlock])))
        have hz12 := g1.size
        have BX2_ := Lib.hid (bx.below g1)
        have BB2_ := Lib.hid (BB1.out.trans (g1.mono BB1.out.size))
        clear g1 bx hgb
        have bx := BX2_.out
        obtain ⟨x0, x1, x2, x3, x4, x5, x6, x7, x8, x9, x10, x11, x12, x13, x14, xf⟩ := bx.fifteen
        go_wp2_with fail
        refine (C2.out _).mono ?_
        rintro e w3 ⟨rfl, g1⟩
        clear x0 x1 x2 x3 x4 x5 x6 x7 x8 x9 x10 x11 x12 x13 x14 xf
        have hgb : w2.grownBy w3 none := ⟨g1.os, g1.tape, g1.output, g1.size, fun i hi _ => g1.block i hi⟩
        have HO2 := Lib.hid (World.ownsRow.kept HO1.out hgb (.inr (by simp [Value.ownBlock])))
        have hz13 := g1.size
        have BX3_ := Lib.hid (bx.below g1)
        have BB3_ := Lib.hid (BB2_.out.trans (g1.mono BB2_.out.size))
        clear g1 bx hgb
        have bx := BX3_.out
        obtain ⟨x0, x1, x2, x3, x4, x5, x6, x7, x8, x9, x10, x11, x12, x13, x14, xf⟩ := bx.fifteen
        go_wp2_with (at_builtin; refine wpList_append_own _ rfl _ _ 35 rfl (w.heap.size + 1) 3 i0 (.int .i64 0) 1 8 Tryd.underlying35 hi hz0 hz1 hz2 rfl (by decide) _ _ _ rfl (HO2.out.alloc _) ⟨w3.heap.size, 0, none⟩ 1 1 [.int .i64 t'] rfl rfl (cell_one_new _ _ _) (fun u hu => by simp at hu; subst hu; rfl) (by unfold maxLen; omega) (by omega) (by have := BX3_.out.lt; simp; omega) ?_; intro v3 u3 hown3 hgrow3 _; have hgg3 : (w3.alloc (.cells #[.int .i64 t'] 3 (0, 0))).grownBy u3 (some g0) := hgrow3; obtain ⟨g3, cp3, rfl, hge3, hlt3⟩ := World.ownsRow.form hown3 (by omega); have bx := (BX3_.out.alloc (.cells #[.int .i64 t'] 3 (0, 0))).kept hgg3 (by simp; omega); obtain ⟨x0, x1, x2, x3, x4, x5, x6, x7, x8, x9, x10, x11, x12, x13, x14, xf⟩ := bx.fifteen)
        have HO3 : Hid (u3.ownsRow (w.heap.size + 1) 3 1 (.slice (some ⟨g3, 0, none⟩) (N + 1) cp3) (N + 1) ((T ++ [t']).map (Value.int .i64))) := Lib.hid (by have h := hown3; simpa [Nat.add_assoc] using h)
        have BX1_3 := Lib.hid bx
        have BB1_3 := Lib.hid ((BB3_.out.alloc BB3_.out.size (.cells #[.int .i64 t'] 3 (0, 0))).grown hgg3 (by have := BB3_.out.size; simp; omega) (fun q hq => by cases hq; omega))
        clear hgg3 hgrow3 hown3
        go_ret
        refine ⟨some ⟨g3, 0, none⟩, cp3, ?_, ?_, BB1_3.out⟩
        · simp [hN]
        · have h := row_low (b' := w.heap.size) HO3.out (by omega)
          unfold OwnI
          simpa [hN] using h
      · have bx := BX.out
        obtain ⟨x0, x1, x2, x3, x4, x5, x6, x7, x8, x9, x10, x11, x12, x13, x14, xf⟩ := bx.fifteen
        go_enter Tryd.func71, Tryd.ntmps71
        go_wp2_with fail
        refine (CT.out _).mono ?_
        rintro e w1 ⟨ga, gc, rfl, ho, g1⟩
        clear x0 x1 x2 x3 x4 x5 x6 x7 x8 x9 x10 x11 x12 x13 x14 xf
        have HW1 : w1.ownsRow (w.heap.size + 1) 3 1 (.slice ga N gc) N (T.map (Value.int .i64)) := by have h := ho; rw [World.size_alloc] at h; exact h
        obtain ⟨g0, cp0, hv0, hge0, hlt0⟩ := World.ownsRow.form HW1 (by omega)
        cases hv0
        have HO0 := Lib.hid HW1
        have BX1 := Lib.hid (bx.below g1)
        have BB1 := Lib.hid (BB.out.trans (g1.mono BB.out.size))
        clear g1 bx ho HW1
        have bx := BX1.out
        obtain ⟨x0, x1, x2, x3, x4, x5, x6, x7, x8, x9, x10, x11, x12, x13, x14, xf⟩ := bx.fifteen
        go_wp2_with fail
        refine (C1.out _).mono ?_
        rintro e w2 ⟨rfl, g1⟩
        clear x0 x1 x2 x3 x4 x5 x6 x7 x8 x9 x10 x11 x12 x13 x14 xf
        have hgb : w1.grownBy w2 none := ⟨g1.os, g1.tape, g1.output, g1.size, fun i hi _ => g1.block i hi⟩
        have HO1 := Lib.hid (World.ownsRow.kept HO0.out hgb (.inr (by simp [Value.ownBlock])))
        have hz12 := g1.size
        have BX2_ := Lib.hid (bx.below g1)
        have BB2_ := Lib.hid (BB1.out.trans (g1.mono BB1.out.size))
        clear g1 bx hgb
        have bx := BX2_.out
        obtain ⟨x0, x1, x2, x3, x4, x5, x6, x7, x8, x9, x10, x11, x12, x13, x14, xf⟩ := bx.fifteen
        go_wp2_with fail
        refine (C2.out _).mono ?_
        rintro e w3 ⟨rfl, g1⟩
        clear x0 x1 x2 x3 x4 x5 x6 x7 x8 x9 x10 x11 x12 x13 x14 xf
        have hgb : w2.grownBy w3 none := ⟨g1.os, g1.tape, g1.output, g1.size, fun i hi _ => g1.block i hi⟩
        have HO2 := Lib.hid (World.ownsRow.kept HO1.out hgb (.inr (by simp [Value.ownBlock])))
        have hz13 := g1.size
        have BX3_ := Lib.hid (bx.below g1)
        have BB3_ := Lib.hid (BB2_.out.trans (g1.mono BB2_.out.size))
        clear g1 bx hgb
        have bx := BX3_.out
        obtain ⟨x0, x1, x2, x3, x4, x5, x6, x7, x8, x9, x10, x11, x12, x13, x14, xf⟩ := bx.fifteen
        go_wp2_with fail
        go_ret
        refine ⟨some ⟨g0, 0, none⟩, gc, ?_, ?_, BB3_.out⟩
        · simp [hN]
        · have h := row_low (b' := w.heap.size) HO2.out (by omega)
          unfold OwnI
          simpa [hN] using h
  · cases z1
    · cases z2
      · have bx := BX.out
        obtain ⟨x0, x1, x2, x3, x4, x5, x6, x7, x8, x9, x10, x11, x12, x13, x14, xf⟩ := bx.fifteen
        go_enter Tryd.func71, Tryd.ntmps71
        go_wp2_with fail
        refine (CT.out _).mono ?_
        rintro e w1 ⟨ga, gc, rfl, ho, g1⟩
        clear x0 x1 x2 x3 x4 x5 x6 x7 x8 x9 x10 x11 x12 x13 x14 xf
        have HW1 : w1.ownsRow (w.heap.size + 1) 3 1 (.slice ga N gc) N (T.map (Value.int .i64)) := by have h := ho; rw [World.size_alloc] at h; exact h
        obtain ⟨g0, cp0, hv0, hge0, hlt0⟩ := World.ownsRow.form HW1 (by omega)
        cases hv0
        have HO0 := Lib.hid HW1
        have BX1 := Lib.hid (bx.below g1)
        have BB1 := Lib.hid (BB.out.trans (g1.mono BB.out.size))
        clear g1 bx ho HW1
        have bx := BX1.out
        obtain ⟨x0, x1, x2, x3, x4, x5, x6, x7, x8, x9, x10, x11, x12, x13, x14, xf⟩ := bx.fifteen
        go_wp2_with (at_builtin; refine wpList_append_own _ rfl _ _ 35 rfl (w.heap.size + 1) 3 i0 (.int .i64 0) 1 8 Tryd.underlying35 hi hz0 hz1 hz2 rfl (by decide) _ _ _ rfl (HO0.out.alloc _) ⟨w1.heap.size, 0, none⟩ 1 1 [.int .i64 x] rfl rfl (cell_one_new _ _ _) (fun u hu => by simp at hu; subst hu; rfl) (by unfold maxLen; omega) (by omega) (by have := BX1.out.lt; simp; omega) ?_; intro v1 u1 hown1 hgrow1 _; have hgg1 : (w1.alloc (.cells #[.int .i64 x] 3 (0, 0))).grownBy u1 (some g0) := hgrow1; obtain ⟨g1, cp1, rfl, hge1, hlt1⟩ := World.ownsRow.form hown1 (by omega); have bx := (BX1.out.alloc (.cells #[.int .i64 x] 3 (0, 0))).kept hgg1 (by simp; omega); obtain ⟨x0, x1, x2, x3, x4, x5, x6, x7, x8, x9, x10, x11, x12, x13, x14, xf⟩ := bx.fifteen)
        have HO1 : Hid (u1.ownsRow (w.heap.size + 1) 3 1 (.slice (some ⟨g1, 0, none⟩) (N + 1) cp1) (N + 1) ((T ++ [x]).map (Value.int .i64))) := Lib.hid (by have h := hown1; simpa [Nat.add_assoc] using h)
        have BX1_1 := Lib.hid bx
        have BB1_1 := Lib.hid ((BB1.out.alloc BB1.out.size (.cells #[.int .i64 x] 3 (0, 0))).grown hgg1 (by have := BB1.out.size; simp; omega) (fun q hq => by cases hq; omega))
        clear hgg1 hgrow1 hown1
        refine (C1.out _).mono ?_
        rintro e w2 ⟨rfl, g1⟩
        clear x0 x1 x2 x3 x4 x5 x6 x7 x8 x9 x10 x11 x12 x13 x14 xf
        have hgb : u1.grownBy w2 none := ⟨g1.os, g1.tape, g1.output, g1.size, fun i hi _ => g1.block i hi⟩
        have HO2 := Lib.hid (World.ownsRow.kept HO1.out hgb (.inr (by simp [Value.ownBlock])))
        have hz12 := g1.size
        have BX2_ := Lib.hid (bx.below g1)
        have BB2_ := Lib.hid (BB1_1.out.trans (g1.mono BB1_1.out.size))
        clear g1 bx hgb
        have bx := BX2_.out
        obtain ⟨x0, x1, x2, x3, x4, x5, x6, x7, x8, x9, x10, x11, x12, x13, x14, xf⟩ := bx.fifteen
        go_wp2_with (at_builtin; refine wpList_append_own _ rfl _ _ 35 rfl (w.heap.size + 1) 3 i0 (.int .i64 0) 1 8 Tryd.underlying35 hi hz0 hz1 hz2 rfl (by decide) _ _ _ rfl (HO2.out.alloc _) ⟨w2.heap.size, 0, none⟩ 1 1 [.int .i64 t] rfl rfl (cell_one_new _ _ _) (fun u hu => by simp at hu; subst hu; rfl) (by unfold maxLen; omega) (by omega) (by have := BX2_.out.lt; simp; omega) ?_; intro v3 u3 hown3 hgrow3 _; have hgg3 : (w2.alloc (.cells #[.int .i64 t] 3 (0, 0))).grownBy u3 (some g1) := hgrow3; obtain ⟨g3, cp3, rfl, hge3, hlt3⟩ := World.ownsRow.form hown3 (by omega); have bx := (BX2_.out.alloc (.cells #[.int .i64 t] 3 (0, 0))).kept hgg3 (by simp; omega); obtain ⟨x0, x1, x2, x3, x4, x5, x6, x7, x8, x9, x10, x11, x12, x13, x14, xf⟩ := bx.fifteen)
        have HO3 : Hid (u3.ownsRow (w.heap.size + 1) 3 1 (.slice (some ⟨g3, 0, none⟩) (N + 2) cp3) (N + 2) ((T ++ [x, t]).map (Value.int .i64))) := Lib.hid (by have h := hown3; simpa [Nat.add_assoc] using h)
        have BX1_3 := Lib.hid bx
        have BB1_3 := Lib.hid ((BB2_.out.alloc BB2_.out.size (.cells #[.int .i64 t] 3 (0, 0))).grown hgg3 (by have := BB2_.out.size; simp; omega) (fun q hq => by cases hq; omega))
        clear hgg3 hgrow3 hown3
        refine (C2.out _).mono ?_
        rintro e w3 ⟨rfl, g1⟩
        clear x0 x1 x2 x3 x4 x5 x6 x7 x8 x9 x10 x11 x12 x13 x14 xf
        have hgb : u3.grownBy w3 none := ⟨g1.os, g1.tape, g1.output, g1.size, fun i hi _ => g1.block i hi⟩
        have HO4 := Lib.hid (World.ownsRow.kept HO3.out hgb (.inr (by simp [Value.ownBlock])))
        have hz13 := g1.size
        have BX3_ := Lib.hid (bx.below g1)
        have BB3_ := Lib.hid (BB1_3.out.trans (g1.mono BB1_3.out.size))
        clear g1 bx hgb
        have bx := BX3_.out
        obtain ⟨x0, x1, x2, x3, x4, x5, x6, x7, x8, x9, x10, x11, x12, x13, x14, xf⟩ := bx.fifteen
        go_wp2_with (at_builtin; refine wpList_append_own _ rfl _ _ 35 rfl (w.heap.size + 1) 3 i0 (.int .i64 0) 1 8 Tryd.underlying35 hi hz0 hz1 hz2 rfl (by decide) _ _ _ rfl (HO4.out.alloc _) ⟨w3.heap.size, 0, none⟩ 1 1 [.int .i64 t'] rfl rfl (cell_one_new _ _ _) (fun u hu => by simp at hu; subst hu; rfl) (by unfold maxLen; omega) (by omega) (by have := BX3_.out.lt; simp; omega) ?_; intro v5 u5 hown5 hgrow5 _; have hgg5 : (w3.alloc (.cells #[.int .i64 t'] 3 (0, 0))).grownBy u5 (some g3) := hgrow5; obtain ⟨g5, cp5, rfl, hge5, hlt5⟩ := World.ownsRow.form hown5 (by omega); have bx := (BX3_.out.alloc (.cells #[.int .i64 t'] 3 (0, 0))).kept hgg5 (by simp; omega); obtain ⟨x0, x1, x2, x3, x4, x5, x6, x7, x8, x9, x10, x11, x12, x13, x14, xf⟩ := bx.fifteen)
        have HO5 : Hid (u5.ownsRow (w.heap.size + 1) 3 1 (.slice (some ⟨g5, 0, none⟩) (N + 3) cp5) (N + 3) ((T ++ [x, t, t']).map (Value.int .i64))) := Lib.hid (by have h := hown5; simpa [Nat.add_assoc] using h)
        have BX1_5 := Lib.hid bx
        have BB1_5 := Lib.hid ((BB3_.out.alloc BB3_.out.size (.cells #[.int .i64 t'] 3 (0, 0))).grown hgg5 (by have := BB3_.out.size; simp; omega) (fun q hq => by cases hq; omega))
        clear hgg5 hgrow5 hown5
        go_ret
        refine ⟨some ⟨g5, 0, none⟩, cp5, ?_, ?_, BB1_5.out⟩
        · simp [hN]
        · have h := row_low (b' := w.heap.size) HO5.out (by omega)
          unfold OwnI
          simpa [hN] using h
      · have bx := BX.out
        obtain ⟨x0, x1, x2, x3, x4, x5, x6, x7, x8, x9, x10, x11, x12, x13, x14, xf⟩ := bx.fifteen
        go_enter Tryd.func71, Tryd.ntmps71
        go_wp2_with fail
        refine (CT.out _).mono ?_
        rintro e w1 ⟨ga, gc, rfl, ho, g1⟩
        clear x0 x1 x2 x3 x4 x5 x6 x7 x8 x9 x10 x11 x12 x13 x14 xf
        have HW1 : w1.ownsRow (w.heap.size + 1) 3 1 (.slice ga N gc) N (T.map (Value.int .i64)) := by have h := ho; rw [World.size_alloc] at h; exact h
        obtain ⟨g0, cp0, hv0, hge0, hlt0⟩ := World.ownsRow.form HW1 (by omega)
        cases hv0
        have HO0 := Lib.hid HW1
        have BX1 := Lib.hid (bx.below g1)
        have BB1 := Lib.hid (BB.out.trans (g1.mono BB.out.size))
        clear g1 bx ho HW1
        have bx := BX1.out
        obtain ⟨x0, x1, x2, x3, x4, x5, x6, x7, x8, x9, x10, x11, x12, x13, x14, xf⟩ := bx.fifteen
        go_wp2_with (at_builtin; refine wpList_append_own _ rfl _ _ 35 rfl (w.heap.size + 1) 3 i0 (.int .i64 0) 1 8 Tryd.underlying35 hi hz0 hz1 hz2 rfl (by decide) _ _ _ rfl (HO0.out.alloc _) ⟨w1.heap.size, 0, none⟩ 1 1 [.int .i64 x] rfl rfl (cell_one_new _ _ _) (fun u hu => by simp at hu; subst hu; rfl) (by unfold maxLen; omega) (by omega) (by have := BX1.out.lt; simp; omega) ?_; intro v1 u1 hown1 hgrow1 _; have hgg1 : (w1.alloc (.cells #[.int .i64 x] 3 (0, 0))).grownBy u1 (some g0) := hgrow1; obtain ⟨g1, cp1, rfl, hge1, hlt1⟩ := World.ownsRow.form hown1 (by omega); have bx := (BX1.out.alloc (.cells #[.int .i64 x] 3 (0, 0))).kept hgg1 (by simp; omega); obtain ⟨x0, x1, x2, x3, x4, x5, x6, x7, x8, x9, x10, x11, x12, x13, x14, xf⟩ := bx.fifteen)
        have HO1 : Hid (u1.ownsRow (w.heap.size + 1) 3 1 (.slice (some ⟨g1, 0, none⟩) (N + 1) cp1) (N + 1) ((T ++ [x]).map (Value.int .i64))) := Lib.hid (by have h := hown1; simpa [Nat.add_assoc] using h)
        have BX1_1 := Lib.hid bx
        have BB1_1 := Lib.hid ((BB1.out.alloc BB1.out.size (.cells #[.int .i64 x] 3 (0, 0))).grown hgg1 (by have := BB1.out.size; simp; omega) (fun q hq => by cases hq; omega))
        clear hgg1 hgrow1 hown1
        refine (C1.out _).mono ?_
        rintro e w2 ⟨rfl, g1⟩
        clear x0 x1 x2 x3 x4 x5 x6 x7 x8 x9 x10 x11 x12 x13 x14 xf
        have hgb : u1.grownBy w2 none := ⟨g1.os, g1.tape, g1.output, g1.size, fun i hi _ => g1.block i hi⟩
        have HO2 := Lib.hid (World.ownsRow.kept HO1.out hgb (.inr (by simp [Value.ownBlock])))
        have hz12 := g1.size
        have BX2_ := Lib.hid (bx.below g1)
        have BB2_ := Lib.hid (BB1_1.out.trans (g1.mono BB1_1.out.size))
        clear g1 bx hgb
        have bx := BX2_.out
        obtain ⟨x0, x1, x2, x3, x4, x5, x6, x7, x8, x9, x10, x11, x12, x13, x14, xf⟩ := bx.fifteen
        go_wp2_with (at_builtin; refine wpList_append_own _ rfl _ _ 35 rfl (w.heap.size + 1) 3 i0 (.int .i64 0) 1 8 Tryd.underlying35 hi hz0 hz1 hz2 rfl (by decide) _ _ _ rfl (HO2.out.alloc _) ⟨w2.heap.size, 0, none⟩ 1 1 [.int .i64 t] rfl rfl (cell_one_new _ _ _) (fun u hu => by simp at hu; subst hu; rfl) (by unfold maxLen; omega) (by omega) (by have := BX2_.out.lt; simp; omega) ?_; intro v3 u3 hown3 hgrow3 _; have hgg3 : (w2.alloc (.cells #[.int .i64 t] 3 (0, 0))).grownBy u3 (some g1) := hgrow3; obtain ⟨g3, cp3, rfl, hge3, hlt3⟩ := World.ownsRow.form hown3 (by omega); have bx := (BX2_.out.alloc (.cells #[.int .i64 t] 3 (0, 0))).kept hgg3 (by simp; omega); obtain ⟨x0, x1, x2, x3, x4, x5, x6, x7, x8, x9, x10, x11, x12, x13, x14, xf⟩ := bx.fifteen)
        have HO3 : Hid (u3.ownsRow (w.heap.size + 1) 3 1 (.slice (some ⟨g3, 0, none⟩) (N + 2) cp3) (N + 2) ((T ++ [x, t]).map (Value.int .i64))) := Lib.hid (by have h := hown3; simpa [Nat.add_assoc] using h)
        have BX1_3 := Lib.hid bx
        have BB1_3 := Lib.hid ((BB2_.out.alloc BB2_.out.size (.cells #[.int .i64 t] 3 (0, 0))).grown hgg3 (by have := BB2_.out.size; simp; omega) (fun q hq => by cases hq; omega))
        clear hgg3 hgrow3 hown3
        refine (C2.out _).mono ?_
        rintro e w3 ⟨rfl, g1⟩
        clear x0 x1 x2 x3 x4 x5 x6 x7 x8 x9 x10 x11 x12 x13 x14 xf
        have hgb : u3.grownBy w3 none := ⟨g1.os, g1.tape, g1.output, g1.size, fun i hi _ => g1.block i hi⟩
        have HO4 := Lib.hid (World.ownsRow.kept HO3.out hgb (.inr (by simp [Value.ownBlock])))
        have hz13 := g1.size
        have BX3_ := Lib.hid (bx.below g1)
        have BB3_ := Lib.hid (BB1_3.out.trans (g1.mono BB1_3.out.size))
        clear g1 bx hgb
        have bx := BX3_.out
        obtain ⟨x0, x1, x2, x3, x4, x5, x6, x7, x8, x9, x10, x11, x12, x13, x14, xf⟩ := bx.fifteen
        go_wp2_with fail
        go_ret
        refine ⟨some ⟨g3, 0, none⟩, cp3, ?_, ?_, BB3_.out⟩
        · simp [hN]
        · have h := row_low (b' := w.heap.size) HO4.out (by omega)
          unfold OwnI
          simpa [hN] using h
    · cases z2
      · have bx := BX.out
        obtain ⟨x0, x1, x2, x3, x4, x5, x6, x7, x8, x9, x10, x11, x12, x13, x14, xf⟩ := bx.fifteen
        go_enter Tryd.func71, Tryd.ntmps71
        go_wp2_with fail
        refine (CT.out _).mono ?_
        rintro e w1 ⟨ga, gc, rfl, ho, g1⟩
        clear x0 x1 x2 x3 x4 x5 x6 x7 x8 x9 x10 x11 x12 x13 x14 xf
        have HW1 : w1.ownsRow (w.heap.size + 1) 3 1 (.slice ga N gc) N (T.map (Value.int .i64)) := by have h := ho; rw [World.size_alloc] at h; exact h
        obtain ⟨g0, cp0, hv0, hge0, hlt0⟩ := World.ownsRow.form HW1 (by omega)
        cases hv0
        have HO0 := Lib.hid HW1
        have BX1 := Lib.hid (bx.below g1)
        have BB1 := Lib.hid (BB.out.trans (g1.mono BB.out.size))
        clear g1 bx ho HW1
        have bx := BX1.out
        obtain ⟨x0, x1, x2, x3, x4, x5, x6, x7, x8, x9, x10, x11, x12, x13, x14, xf⟩ := bx.fifteen
        go_wp2_with (at_builtin; refine wpList_append_own _ rfl _ _ 35 rfl (w.heap.size + 1) 3 i0 (.int .i64 0) 1 8 Tryd.underlying35 hi hz0 hz1 hz2 rfl (by decide) _ _ _ rfl (HO0.out.alloc _) ⟨w1.heap.size, 0, none⟩ 1 1 [.int .i64 x] rfl rfl (cell_one_new _ _ _) (fun u hu => by simp at hu; subst hu; rfl) (by unfold maxLen; omega) (by omega) (by have := BX1.out.lt; simp; omega) ?_; intro v1 u1 hown1 hgrow1 _; have hgg1 : (w1.alloc (.cells #[.int .i64 x] 3 (0, 0))).grownBy u1 (some g0) := hgrow1; obtain ⟨g1, cp1, rfl, hge1, hlt1⟩ := World.ownsRow.form hown1 (by omega); have bx := (BX1.out.alloc (.cells #[.int .i64 x] 3 (0, 0))).kept hgg1 (by simp; omega); obtain ⟨x0, x1, x2, x3, x4, x5, x6, x7, x8, x9, x10, x11, x12, x13, x14, xf⟩ := bx.fifteen)
        have HO1 : Hid (u1.ownsRow (w.heap.size + 1) 3 1 (.slice (some ⟨g1, 0, none⟩) (N + 1) cp1) (N + 1) ((T ++ [x]).map (Value.int .i64))) := Lib.hid (by have h := hown1; simpa [Nat.add_assoc] using h)
        have BX1_1 := Lib.hid bx
        have BB1_1 := Lib.hid ((BB1.out.alloc BB1.out.size (.cells #[.int .i64 x] 3 (0, 0))).grown hgg1 (by have := BB1.out.size; simp; omega) (fun q hq => by cases hq; omega))
        clear hgg1 hgrow1 hown1
        refine (C1.out _).mono ?_
        rintro e w2 ⟨rfl, g1⟩
        clear x0 x1 x2 x3 x4 x5 x6 x7 x8 x9 x10 x11 x12 x13 x14 xf
        have hgb : u1.grownBy w2 none := ⟨g1.os, g1.tape, g1.output, g1.size, fun i hi _ => g1.block i hi⟩
        have HO2 := Lib.hid (World.ownsRow.kept HO1.out hgb (.inr (by simp [Value.ownBlock])))
        have hz12 := g1.size
        have BX2_ := Lib.hid (bx.below g1)
        have BB2_ := Lib.hid (BB1_1.out.trans (g1.mono BB1_1.out.size))
        clear g1 bx hgb
        have bx := BX2_.out
        obtain ⟨x0, x1, x2, x3, x4, x5, x6, x7, x8, x9, x10, x11, x12, x13, x14, xf⟩ := bx.fifteen
        go_wp2_with fail
        refine (C2.out _).mono ?_
        rintro e w3 ⟨rfl, g1⟩
        clear x0 x1 x2 x3 x4 x5 x6 x7 x8 x9 x10 x11 x12 x13 x14 xf
        have hgb : w2.grownBy w3 none := ⟨g1.os, g1.tape, g1.output, g1.size, fun i hi _ => g1.block i hi⟩
        have HO3 := Lib.hid (World.ownsRow.kept HO2.out hgb (.inr (by simp [Value.ownBlock])))
        have hz13 := g1.size
        have BX3_ := Lib.hid (bx.below g1)
        have BB3_ := Lib.hid (BB2_.out.trans (g1.mono BB2_.out.size))
        clear g1 bx hgb
        have bx := BX3_.out
        obtain ⟨x0, x1, x2, x3, x4, x5, x6, x7, x8, x9, x10, x11, x12, x13, x14, xf⟩ := bx.fifteen
        go_wp2_with (at_builtin; refine wpList_append_own _ rfl _ _ 35 rfl (w.heap.size + 1) 3 i0 (.int .i64 0) 1 8 Tryd.underlying35 hi hz0 hz1 hz2 rfl (by decide) _ _ _ rfl (HO3.out.alloc _) ⟨w3.heap.size, 0, none⟩ 1 1 [.int .i64 t'] rfl rfl (cell_one_new _ _ _) (fun u hu => by simp at hu; subst hu; rfl) (by unfold maxLen; omega) (by omega) (by have := BX3_.out.lt; simp; omega) ?_; intro v4 u4 hown4 hgrow4 _; have hgg4 : (w3.alloc (.cells #[.int .i64 t'] 3 (0, 0))).grownBy u4 (some g1) := hgrow4; obtain ⟨g4, cp4, rfl, hge4, hlt4⟩ := World.ownsRow.form hown4 (by omega); have bx := (BX3_.out.alloc (.cells #[.int .i64 t'] 3 (0, 0))).kept hgg4 (by simp; omega); obtain ⟨x0, x1, x2, x3, x4, x5, x6, x7, x8, x9, x10, x11, x12, x13, x14, xf⟩ := bx.fifteen)
        have HO4 : Hid (u4.ownsRow (w.heap.size + 1) 3 1 (.slice (some ⟨g4, 0, none⟩) (N + 2) cp4) (N + 2) ((T ++ [x, t']).map (Value.int .i64))) := Lib.hid (by have h := hown4; simpa [Nat.add_assoc] using h)
        have BX1_4 := Lib.hid bx
        have BB1_4 := Lib.hid ((BB3_.out.alloc BB3_.out.size (.cells #[.int .i64 t'] 3 (0, 0))).grown hgg4 (by have := BB3_.out.size; simp; omega) (fun q hq => by cases hq; omega))
        clear hgg4 hgrow4 hown4
        go_ret
        refine ⟨some ⟨g4, 0, none⟩, cp4, ?_, ?_, BB1_4.out⟩
        · simp [hN]
        · have h := row_low (b' := w.heap.size) HO4.out (by omega)
          unfold OwnI
          simpa [hN] using h
      · have bx := BX.out
        obtain ⟨x0, x1, x2, x3, x4, x5, x6, x7, x8, x9, x10, x11, x12, x13, x14, xf⟩ := bx.fifteen
        go_enter Tryd.func71, Tryd.ntmps71
        go_wp2_with fail
        refine (CT.out _).mono ?_
        rintro e w1 ⟨ga, gc, rfl, ho, g1⟩
        clear x0 x1 x2 x3 x4 x5 x6 x7 x8 x9 x10 x11 x12 x13 x14 xf
        have HW1 : w1.ownsRow (w.heap.size + 1) 3 1 (.slice ga N gc) N (T.map (Value.int .i64)) := by have h := ho; rw [World.size_alloc] at h; exact h
        obtain ⟨g0, cp0, hv0, hge0, hlt0⟩ := World.ownsRow.form HW1 (by omega)
        cases hv0
        have HO0 := Lib.hid HW1
        have BX1 := Lib.hid (bx.below g1)
        have BB1 := Lib.hid (BB.out.trans (g1.mono BB.out.size))
        clear g1 bx ho HW1
        have bx := BX1.out
        obtain ⟨x0, x1, x2, x3, x4, x5, x6, x7, x8, x9, x10, x11, x12, x13, x14, xf⟩ := bx.fifteen
        go_wp2_with (at_builtin; refine wpList_append_own _ rfl _ _ 35 rfl (w.heap.size + 1) 3 i0 (.int .i64 0) 1 8 Tryd.underlying35 hi hz0 hz1 hz2 rfl (by decide) _ _ _ rfl (HO0.out.alloc _) ⟨w1.heap.size, 0, none⟩ 1 1 [.int .i64 x] rfl rfl (cell_one_new _ _ _) (fun u hu => by simp at hu; subst hu; rfl) (by unfold maxLen; omega) (by omega) (by have := BX1.out.lt; simp; omega) ?_; intro v1 u1 hown1 hgrow1 _; have hgg1 : (w1.alloc (.cells #[.int .i64 x] 3 (0, 0))).grownBy u1 (some g0) := hgrow1; obtain ⟨g1, cp1, rfl, hge1, hlt1⟩ := World.ownsRow.form hown1 (by omega); have bx := (BX1.out.alloc (.cells #[.int .i64 x] 3 (0, 0))).kept hgg1 (by simp; omega); obtain ⟨x0, x1, x2, x3, x4, x5, x6, x7, x8, x9, x10, x11, x12, x13, x14, xf⟩ := bx.fifteen)
        have HO1 : Hid (u1.ownsRow (w.heap.size + 1) 3 1 (.slice (some ⟨g1, 0, none⟩) (N + 1) cp1) (N + 1) ((T ++ [x]).map (Value.int .i64))) := Lib.hid (by have h := hown1; simpa [Nat.add_assoc] using h)
        have BX1_1 := Lib.hid bx
        have BB1_1 := Lib.hid ((BB1.out.alloc BB1.out.size (.cells #[.int .i64 x] 3 (0, 0))).grown hgg1 (by have := BB1.out.size; simp; omega) (fun q hq => by cases hq; omega))
        clear hgg1 hgrow1 hown1
        refine (C1.out _).mono ?_
        rintro e w2 ⟨rfl, g1⟩
        clear x0 x1 x2 x3 x4 x5 x6 x7 x8 x9 x10 x11 x12 x13 x14 xf
        have hgb : u1.grownBy w2 none := ⟨g1.os, g1.tape, g1.output, g1.size, fun i hi _ => g1.block i hi⟩
        have HO2 := Lib.hid (World.ownsRow.kept HO1.out hgb (.inr (by simp [Value.ownBlock])))
        have hz12 := g1.size
        have BX2_ := Lib.hid (bx.below g1)
        have BB2_ := Lib.hid (BB1_1.out.trans (g1.mono BB1_1.out.size))
        clear g1 bx hgb
        have bx := BX2_.out
        obtain ⟨x0, x1, x2, x3, x4, x5, x6, x7, x8, x9, x10, x11, x12, x13, x14, xf⟩ := bx.fifteen
        go_wp2_with fail
        refine (C2.out _).mono ?_
        rintro e w3 ⟨rfl, g1⟩
        clear x0 x1 x2 x3 x4 x5 x6 x7 x8 x9 x10 x11 x12 x13 x14 xf
        have hgb : w2.grownBy w3 none := ⟨g1.os, g1.tape, g1.output, g1.size, fun i hi _ => g1.block i hi⟩
        have HO3 := Lib.hid (World.ownsRow.kept HO2.out hgb (.inr (by simp [Value.ownBlock])))
        have hz13 := g1.size
        have BX3_ := Lib.hid (bx.below g1)
        have BB3_ := Lib.hid (BB2_.out.trans (g1.mono BB2_.out.size))
        clear g1 bx hgb
        have bx := BX3_.out
        obtain ⟨x0, x1, x2, x3, x4, x5, x6, x7, x8, x9, x10, x11, x12, x13, x14, xf⟩ := bx.fifteen
        go_wp2_with fail
        go_ret
        refine ⟨some ⟨g1, 0, none⟩, cp1, ?_, ?_, BB3_.out⟩
        · simp [hN]
        · have h := row_low (b' := w.heap.size) HO3.out (by omega)
          unfold OwnI
          simpa [hN] using h
end Go.Proofs.YtapjiffililmgaaDoor
