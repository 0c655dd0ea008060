/- Several small texts in one: Arms. -/
import Derived.Test.YthapidnjioindaaDoorKC
import Derived.Test.YthapidnjioindaaDoorKD
namespace Go.Proofs.YthapidnjioindaaDoor
open Go.RowKit

theorem BoxF.fifteen {w : World} {b : Nat} {x0 x1 x2 x3 x4 x5 x6 x7 x8 x9 x10 x11 x12 x13 x14 : Value} {t : TypeId} (h : BoxF w b [x0, x1, x2, x3, x4, x5, x6, x7, x8, x9, x10, x11, x12, x13, x14] t) : w.cell? ⟨b, 0, none⟩ = some x0 ∧ w.cell? ⟨b, 1, none⟩ = some x1 ∧ w.cell? ⟨b, 2, none⟩ = some x2 ∧ w.cell? ⟨b, 3, none⟩ = some x3 ∧ w.cell? ⟨b, 4, none⟩ = some x4 ∧ w.cell? ⟨b, 5, none⟩ = some x5 ∧ w.cell? ⟨b, 6, none⟩ = some x6 ∧ w.cell? ⟨b, 7, none⟩ = some x7 ∧ w.cell? ⟨b, 8, none⟩ = some x8 ∧ w.cell? ⟨b, 9, none⟩ = some x9 ∧ w.cell? ⟨b, 10, none⟩ = some x10 ∧ w.cell? ⟨b, 11, none⟩ = some x11 ∧ w.cell? ⟨b, 12, none⟩ = some x12 ∧ w.cell? ⟨b, 13, none⟩ = some x13 ∧ w.cell? ⟨b, 14, none⟩ = some x14 ∧ ∀ i, w.frozen? ⟨b, i, none⟩ = false :=
  ⟨h.at 0, h.at 1, h.at 2, h.at 3, h.at 4, h.at 5, h.at 6, h.at 7, h.at 8, h.at 9, h.at 10, h.at 11, h.at 12, h.at 13, h.at 14, h.free⟩
/-- A run of stores from cell i on. -/
def sets (W : World) (b : Nat) : Nat → List Value → World
  | _, [] => W
  | i, v :: r => sets (W.setCell ⟨b, i, none⟩ v) b (i + 1) r
def putL (L : List Value) : Nat → List Value → List Value
  | _, [] => L
  | i, v :: r => putL (L.set i v) (i + 1) r
theorem sets_box {b : Nat} {t : TypeId} : ∀ (vs : List Value) (i : Nat) {W : World} {L : List Value}, BoxF W b L t → BoxF (sets W b i vs) b (putL L i vs) t
  | [], _, _, _, h => h
  | v :: r, i, _, _, h => sets_box r (i + 1) (h.set i v)
theorem sets_far {b c : Nat} {t : TypeId} {L : List Value} (hne : c ≠ b) : ∀ (vs : List Value) (i : Nat) {W : World}, BoxF W c L t → BoxF (sets W b i vs) c L t
  | [], _, _, h => h
  | v :: r, i, _, h => sets_far hne r (i + 1) (h.far i v hne)
theorem sets_below {n b : Nat} {w : World} (hb : n ≤ b) : ∀ (vs : List Value) (i : Nat) {W : World}, Below n w W → Below n w (sets W b i vs)
  | [], _, _, h => h
  | v :: r, i, _, h => sets_below hb r (i + 1) (h.setCell (p := ⟨b, i, none⟩) hb v)
theorem sets_size {b : Nat} : ∀ (vs : List Value) (i : Nat) (W : World), (sets W b i vs).heap.size = W.heap.size
  | [], _, _ => rfl
  | v :: r, i, W => (sets_size r (i + 1) _).trans (by simp)
/-- Fifteen stores, one after the other. -/
theorem grown15 (w : World) (b : Nat) (v0 v1 v2 v3 v4 v5 v6 v7 v8 v9 v10 v11 v12 v13 v14 : Value) : w.grownBy (((((((((((((((w.setCell ⟨b, 0, none⟩ v0).setCell ⟨b, 1, none⟩ v1).setCell ⟨b, 2, none⟩ v2).setCell ⟨b, 3, none⟩ v3).setCell ⟨b, 4, none⟩ v4).setCell ⟨b, 5, none⟩ v5).setCell ⟨b, 6, none⟩ v6).setCell ⟨b, 7, none⟩ v7).setCell ⟨b, 8, none⟩ v8).setCell ⟨b, 9, none⟩ v9).setCell ⟨b, 10, none⟩ v10).setCell ⟨b, 11, none⟩ v11).setCell ⟨b, 12, none⟩ v12).setCell ⟨b, 13, none⟩ v13).setCell ⟨b, 14, none⟩ v14) (some b) :=
  ((((((((((((((grownBy_set w b 0 v0).trans (grownBy_set _ b 1 v1)).trans (grownBy_set _ b 2 v2)).trans (grownBy_set _ b 3 v3)).trans (grownBy_set _ b 4 v4)).trans (grownBy_set _ b 5 v5)).trans (grownBy_set _ b 6 v6)).trans (grownBy_set _ b 7 v7)).trans (grownBy_set _ b 8 v8)).trans (grownBy_set _ b 9 v9)).trans (grownBy_set _ b 10 v10)).trans (grownBy_set _ b 11 v11)).trans (grownBy_set _ b 12 v12)).trans (grownBy_set _ b 13 v13)).trans (grownBy_set _ b 14 v14)
theorem BoxF.all15 {W : World} {b : Nat} {x0 x1 x2 x3 x4 x5 x6 x7 x8 x9 x10 x11 x12 x13 x14 v0 v1 v2 v3 v4 v5 v6 v7 v8 v9 v10 v11 v12 v13 v14 : Value} {t : TypeId} (h : BoxF W b [x0, x1, x2, x3, x4, x5, x6, x7, x8, x9, x10, x11, x12, x13, x14] t) : BoxF (((((((((((((((W.setCell ⟨b, 0, none⟩ v0).setCell ⟨b, 1, none⟩ v1).setCell ⟨b, 2, none⟩ v2).setCell ⟨b, 3, none⟩ v3).setCell ⟨b, 4, none⟩ v4).setCell ⟨b, 5, none⟩ v5).setCell ⟨b, 6, none⟩ v6).setCell ⟨b, 7, none⟩ v7).setCell ⟨b, 8, none⟩ v8).setCell ⟨b, 9, none⟩ v9).setCell ⟨b, 10, none⟩ v10).setCell ⟨b, 11, none⟩ v11).setCell ⟨b, 12, none⟩ v12).setCell ⟨b, 13, none⟩ v13).setCell ⟨b, 14, none⟩ v14) b [v0, v1, v2, v3, v4, v5, v6, v7, v8, v9, v10, v11, v12, v13, v14] t :=
  (((((((((((((((h).set 0 v0).set 1 v1).set 2 v2).set 3 v3).set 4 v4).set 5 v5).set 6 v6).set 7 v7).set 8 v8).set 9 v9).set 10 v10).set 11 v11).set 12 v12).set 13 v13).set 14 v14
set_option maxHeartbeats 4000000 in
theorem toArms_any (d l f s o n x c k a t c' k' a' t' : Int) (w : World) :
    Calls Tryd.prog 28 #[.agg #[.int .i64 d, .int .i64 l, .int .i64 f, .int .i64 s, .int .i64 o, .int .i64 n, .int .i64 x, .int .i64 c, .int .i64 k, .int .i64 a, .int .i64 t, .int .i64 c', .int .i64 k', .int .i64 a', .int .i64 t']] w fun e w' => e = .returned (.agg #[.int .i64 d, .int .i64 l, .int .i64 f, .int .i64 s, .int .i64 o, .int .i64 n, .int .i64 x, .int .i64 c, .int .i64 k, .int .i64 a, .int .i64 t, .int .i64 c', .int .i64 k', .int .i64 a', .int .i64 t']) ∧ Below w.heap.size w w' := by
  have HF := Lib.hid (fun W => toField_any d l f s W)
  have HG := Lib.hid (fun W => toGroup_any c k a t W)
  have HK := Lib.hid (fun W => toGroup_any c' k' a' t' W)
  have A0 := ((BoxF.new w [.int .i64 d, .int .i64 l, .int .i64 f, .int .i64 s, .int .i64 o, .int .i64 n, .int .i64 x, .int .i64 c, .int .i64 k, .int .i64 a, .int .i64 t, .int .i64 c', .int .i64 k', .int .i64 a', .int .i64 t'] 54).alloc (.cells #[.int .i64 0, .int .i64 0, .int .i64 0, .int .i64 0, .int .i64 0, .int .i64 0, .int .i64 0, .int .i64 0, .int .i64 0, .int .i64 0, .int .i64 0, .int .i64 0, .int .i64 0, .int .i64 0, .int .i64 0] 60 (0, 0))).alloc (.cells #[.int .i64 0, .int .i64 0, .int .i64 0, .int .i64 0, .int .i64 0, .int .i64 0, .int .i64 0, .int .i64 0, .int .i64 0, .int .i64 0, .int .i64 0, .int .i64 0, .int .i64 0, .int .i64 0, .int .i64 0] 60 (0, 0))
  have R0 := (BoxF.new (w.alloc (.cells #[.int .i64 d, .int .i64 l, .int .i64 f, .int .i64 s, .int .i64 o, .int .i64 n, .int .i64 x, .int .i64 c, .int .i64 k, .int .i64 a, .int .i64 t, .int .i64 c', .int .i64 k', .int .i64 a', .int .i64 t'] 54 (0, 0))) [.int .i64 0, .int .i64 0, .int .i64 0, .int .i64 0, .int .i64 0, .int .i64 0, .int .i64 0, .int .i64 0, .int .i64 0, .int .i64 0, .int .i64 0, .int .i64 0, .int .i64 0, .int .i64 0, .int .i64 0] 60).alloc (.cells #[.int .i64 0, .int .i64 0, .int .i64 0, .int .i64 0, .int .i64 0, .int .i64 0, .int .i64 0, .int .i64 0, .int .i64 0, .int .i64 0, .int .i64 0, .int .i64 0, .int .i64 0, .int .i64 0, .int .i64 0] 60 (0, 0))
  have O0 := BoxF.new ((w.alloc (.cells #[.int .i64 d, .int .i64 l, .int .i64 f, .int .i64 s, .int .i64 o, .int .i64 n, .int .i64 x, .int .i64 c, .int .i64 k, .int .i64 a, .int .i64 t, .int .i64 c', .int .i64 k', .int .i64 a', .int .i64 t'] 54 (0, 0))).alloc (.cells #[.int .i64 0, .int .i64 0, .int .i64 0, .int .i64 0, .int .i64 0, .int .i64 0, .int .i64 0, .int .i64 0, .int .i64 0, .int .i64 0, .int .i64 0, .int .i64 0, .int .i64 0, .int .i64 0, .int .i64 0] 60 (0, 0))) [.int .i64 0, .int .i64 0, .int .i64 0, .int .i64 0, .int .i64 0, .int .i64 0, .int .i64 0, .int .i64 0, .int .i64 0, .int .i64 0, .int .i64 0, .int .i64 0, .int .i64 0, .int .i64 0, .int .i64 0] 60
  simp only [World.size_alloc] at R0 O0
  have B0 : Below w.heap.size w (((w.alloc (.cells #[.int .i64 d, .int .i64 l, .int .i64 f, .int .i64 s, .int .i64 o, .int .i64 n, .int .i64 x, .int .i64 c, .int .i64 k, .int .i64 a, .int .i64 t, .int .i64 c', .int .i64 k', .int .i64 a', .int .i64 t'] 54 (0, 0))).alloc (.cells #[.int .i64 0, .int .i64 0, .int .i64 0, .int .i64 0, .int .i64 0, .int .i64 0, .int .i64 0, .int .i64 0, .int .i64 0, .int .i64 0, .int .i64 0, .int .i64 0, .int .i64 0, .int .i64 0, .int .i64 0] 60 (0, 0))).alloc (.cells #[.int .i64 0, .int .i64 0, .int .i64 0, .int .i64 0, .int .i64 0, .int .i64 0, .int .i64 0, .int .i64 0, .int .i64 0, .int .i64 0, .int .i64 0, .int .i64 0, .int .i64 0, .int .i64 0, .int .i64 0] 60 (0, 0))) := (((Below.refl _ w).alloc (Nat.le_refl _) _).alloc (by simp) _).alloc (by simp; omega) _
  have ra : ∀ (W : World) i j v, (W.setCell ⟨w.heap.size + 1 + 1, i, none⟩ v).cell? ⟨w.heap.size, j, none⟩ = W.cell? ⟨w.heap.size, j, none⟩ := fun W i j v => cset_b _ _ _ _ _ _ (by omega)
  have rr : ∀ (W : World) i j v, (W.setCell ⟨w.heap.size + 1 + 1, i, none⟩ v).cell? ⟨w.heap.size + 1, j, none⟩ = W.cell? ⟨w.heap.size + 1, j, none⟩ := fun W i j v => cset_b _ _ _ _ _ _ (by omega)
  have RA := Lib.hid (And.intro ra rr)
  have HA0 := Lib.hid A0
  have HR0 := Lib.hid R0
  have HO0 := Lib.hid O0
  have HB0 := Lib.hid B0
  clear A0 R0 O0 B0 ra rr
  go_enter Tryd.func28, Tryd.ntmps28
  have x0 := HA0.out
  obtain ⟨x0, x1, x2, x3, x4, x5, x6, x7, x8, x9, x10, x11, x12, x13, x14, xf⟩ := x0.fifteen
  go_wp2_with fail
  refine (HF.out _).mono ?_
  rintro e w1 ⟨rfl, h1⟩
  clear x0 x1 x2 x3 x4 x5 x6 x7 x8 x9 x10 x11 x12 x13 x14 xf
  have A1 := HA0.out.below h1
  have R1 := HR0.out.below h1
  have O1 := HO0.out.below h1
  have B1 := HB0.out.trans (h1.mono HB0.out.size)
  clear h1 HA0 HR0 HO0 HB0
  obtain ⟨x0, x1, x2, x3, x4, x5, x6, x7, x8, x9, x10, x11, x12, x13, x14, xf⟩ := A1.fifteen
  obtain ⟨y0, y1, y2, y3, y4, y5, y6, y7, y8, y9, y10, y11, y12, y13, y14, yf⟩ := O1.fifteen
  obtain ⟨ra, rr⟩ := RA.out
  have HA1 : Hid (BoxF (((((((w1.setCell ⟨w.heap.size + 1 + 1, 0, none⟩ (.int .i64 d)).setCell ⟨w.heap.size + 1 + 1, 1, none⟩ (.int .i64 l)).setCell ⟨w.heap.size + 1 + 1, 2, none⟩ (.int .i64 f)).setCell ⟨w.heap.size + 1 + 1, 3, none⟩ (.int .i64 s)).setCell ⟨w.heap.size + 1 + 1, 4, none⟩ (.int .i64 o)).setCell ⟨w.heap.size + 1 + 1, 5, none⟩ (.int .i64 n)).setCell ⟨w.heap.size + 1 + 1, 6, none⟩ (.int .i64 x)) (w.heap.size) [.int .i64 d, .int .i64 l, .int .i64 f, .int .i64 s, .int .i64 o, .int .i64 n, .int .i64 x, .int .i64 c, .int .i64 k, .int .i64 a, .int .i64 t, .int .i64 c', .int .i64 k', .int .i64 a', .int .i64 t'] 54) := Lib.hid (sets_far (by omega) [.int .i64 d, .int .i64 l, .int .i64 f, .int .i64 s, .int .i64 o, .int .i64 n, .int .i64 x] 0 A1)
  have HR1 : Hid (BoxF (((((((w1.setCell ⟨w.heap.size + 1 + 1, 0, none⟩ (.int .i64 d)).setCell ⟨w.heap.size + 1 + 1, 1, none⟩ (.int .i64 l)).setCell ⟨w.heap.size + 1 + 1, 2, none⟩ (.int .i64 f)).setCell ⟨w.heap.size + 1 + 1, 3, none⟩ (.int .i64 s)).setCell ⟨w.heap.size + 1 + 1, 4, none⟩ (.int .i64 o)).setCell ⟨w.heap.size + 1 + 1, 5, none⟩ (.int .i64 n)).setCell ⟨w.heap.size + 1 + 1, 6, none⟩ (.int .i64 x)) (w.heap.size + 1) [.int .i64 0, .int .i64 0, .int .i64 0, .int .i64 0, .int .i64 0, .int .i64 0, .int .i64 0, .int .i64 0, .int .i64 0, .int .i64 0, .int .i64 0, .int .i64 0, .int .i64 0, .int .i64 0, .int .i64 0] 60) := Lib.hid (sets_far (by omega) [.int .i64 d, .int .i64 l, .int .i64 f, .int .i64 s, .int .i64 o, .int .i64 n, .int .i64 x] 0 R1)
  have HO1 : Hid (BoxF (((((((w1.setCell ⟨w.heap.size + 1 + 1, 0, none⟩ (.int .i64 d)).setCell ⟨w.heap.size + 1 + 1, 1, none⟩ (.int .i64 l)).setCell ⟨w.heap.size + 1 + 1, 2, none⟩ (.int .i64 f)).setCell ⟨w.heap.size + 1 + 1, 3, none⟩ (.int .i64 s)).setCell ⟨w.heap.size + 1 + 1, 4, none⟩ (.int .i64 o)).setCell ⟨w.heap.size + 1 + 1, 5, none⟩ (.int .i64 n)).setCell ⟨w.heap.size + 1 + 1, 6, none⟩ (.int .i64 x)) (w.heap.size + 1 + 1) [.int .i64 d, .int .i64 l, .int .i64 f, .int .i64 s, .int .i64 o, .int .i64 n, .int .i64 x, .int .i64 0, .int .i64 0, .int .i64 0, .int .i64 0, .int .i64 0, .int .i64 0, .int .i64 0, .int .i64 0] 60) := Lib.hid (sets_box [.int .i64 d, .int .i64 l, .int .i64 f, .int .i64 s, .int .i64 o, .int .i64 n, .int .i64 x] 0 O1)
  have HB1 : Hid (Below w.heap.size w (((((((w1.setCell ⟨w.heap.size + 1 + 1, 0, none⟩ (.int .i64 d)).setCell ⟨w.heap.size + 1 + 1, 1, none⟩ (.int .i64 l)).setCell ⟨w.heap.size + 1 + 1, 2, none⟩ (.int .i64 f)).setCell ⟨w.heap.size + 1 + 1, 3, none⟩ (.int .i64 s)).setCell ⟨w.heap.size + 1 + 1, 4, none⟩ (.int .i64 o)).setCell ⟨w.heap.size + 1 + 1, 5, none⟩ (.int .i64 n)).setCell ⟨w.heap.size + 1 + 1, 6, none⟩ (.int .i64 x))) := Lib.hid (sets_below (by omega) [.int .i64 d, .int .i64 l, .int .i64 f, .int .i64 s, .int .i64 o, .int .i64 n, .int .i64 x] 0 B1)
  clear A1 R1 O1 B1
  go_wp2_with fail
  clear x0 x1 x2 x3 x4 x5 x6 x7 x8 x9 x10 x11 x12 x13 x14 xf
  clear y0 y1 y2 y3 y4 y5 y6 y7 y8 y9 y10 y11 y12 y13 y14 yf
  clear ra rr
  refine (HG.out _).mono ?_
  rintro e w2 ⟨rfl, h2⟩
  have A2 := HA1.out.below h2
  have R2 := HR1.out.below h2
  have O2 := HO1.out.below h2
  have B2 := HB1.out.trans (h2.mono HB1.out.size)
  clear h2 HA1 HR1 HO1 HB1
  obtain ⟨x0, x1, x2, x3, x4, x5, x6, x7, x8, x9, x10, x11, x12, x13, x14, xf⟩ := A2.fifteen
  obtain ⟨y0, y1, y2, y3, y4, y5, y6, y7, y8, y9, y10, y11, y12, y13, y14, yf⟩ := O2.fifteen
  obtain ⟨ra, rr⟩ := RA.out
  have HA2 : Hid (BoxF ((((w2.setCell ⟨w.heap.size + 1 + 1, 7, none⟩ (.int .i64 c)).setCell ⟨w.heap.size + 1 + 1, 8, none⟩ (.int .i64 k)).setCell ⟨w.heap.size + 1 + 1, 9, none⟩ (.int .i64 a)).setCell ⟨w.heap.size + 1 + 1, 10, none⟩ (.int .i64 t)) (w.heap.size) [.int .i64 d, .int .i64 l, .int .i64 f, .int .i64 s, .int .i64 o, .int .i64 n, .int .i64 x, .int .i64 c, .int .i64 k, .int .i64 a, .int .i64 t, .int .i64 c', .int .i64 k', .int .i64 a', .int .i64 t'] 54) := Lib.hid (sets_far (by omega) [.int .i64 c, .int .i64 k, .int .i64 a, .int .i64 t] 7 A2)
  have HR2 : Hid (BoxF ((((w2.setCell ⟨w.heap.size + 1 + 1, 7, none⟩ (.int .i64 c)).setCell ⟨w.heap.size + 1 + 1, 8, none⟩ (.int .i64 k)).setCell ⟨w.heap.size + 1 + 1, 9, none⟩ (.int .i64 a)).setCell ⟨w.heap.size + 1 + 1, 10, none⟩ (.int .i64 t)) (w.heap.size + 1) [.int .i64 0, .int .i64 0, .int .i64 0, .int .i64 0, .int .i64 0, .int .i64 0, .int .i64 0, .int .i64 0, .int .i64 0, .int .i64 0, .int .i64 0, .int .i64 0, .int .i64 0, .int .i64 0, .int .i64 0] 60) := Lib.hid (sets_far (by omega) [.int .i64 c, .int .i64 k, .int .i64 a, .int .i64 t] 7 R2)
  have HO2 : Hid (BoxF ((((w2.setCell ⟨w.heap.size + 1 + 1, 7, none⟩ (.int .i64 c)).setCell ⟨w.heap.size + 1 + 1, 8, none⟩ (.int .i64 k)).setCell ⟨w.heap.size + 1 + 1, 9, none⟩ (.int .i64 a)).setCell ⟨w.heap.size + 1 + 1, 10, none⟩ (.int .i64 t)) (w.heap.size + 1 + 1) [.int .i64 d, .int .i64 l, .int .i64 f, .int .i64 s, .int .i64 o, .int .i64 n, .int .i64 x, .int .i64 c, .int .i64 k, .int .i64 a, .int .i64 t, .int .i64 0, .int .i64 0, .int .i64 0, .int .i64 0] 60) := Lib.hid (sets_box [.int .i64 c, .int .i64 k, .int .i64 a, .int .i64 t] 7 O2)
  have HB2 : Hid (Below w.heap.size w ((((w2.setCell ⟨w.heap.size + 1 + 1, 7, none⟩ (.int .i64 c)).setCell ⟨w.heap.size + 1 + 1, 8, none⟩ (.int .i64 k)).setCell ⟨w.heap.size + 1 + 1, 9, none⟩ (.int .i64 a)).setCell ⟨w.heap.size + 1 + 1, 10, none⟩ (.int .i64 t))) := Lib.hid (sets_below (by omega) [.int .i64 c, .int .i64 k, .int .i64 a, .int .i64 t] 7 B2)
  clear A2 R2 O2 B2
  go_wp2_with fail
  clear x0 x1 x2 x3 x4 x5 x6 x7 x8 x9 x10 x11 x12 x13 x14 xf
  clear y0 y1 y2 y3 y4 y5 y6 y7 y8 y9 y10 y11 y12 y13 y14 yf
  clear ra rr
  refine (HK.out _).mono ?_
  rintro e w3 ⟨rfl, h3⟩
  have A3 := HA2.out.below h3
  have R3 := HR2.out.below h3
  have O3 := HO2.out.below h3
  have B3 := HB2.out.trans (h3.mono HB2.out.size)
  clear h3 HA2 HR2 HO2 HB2
  obtain ⟨x0, x1, x2, x3, x4, x5, x6, x7, x8, x9, x10, x11, x12, x13, x14, xf⟩ := A3.fifteen
  obtain ⟨y0, y1, y2, y3, y4, y5, y6, y7, y8, y9, y10, y11, y12, y13, y14, yf⟩ := O3.fifteen
  obtain ⟨ra, rr⟩ := RA.out
  have HA3 : Hid (BoxF ((((w3.setCell ⟨w.heap.size + 1 + 1, 11, none⟩ (.int .i64 c')).setCell ⟨w.heap.size + 1 + 1, 12, none⟩ (.int .i64 k')).setCell ⟨w.heap.size + 1 + 1, 13, none⟩ (.int .i64 a')).setCell ⟨w.heap.size + 1 + 1, 14, none⟩ (.int .i64 t')) (w.heap.size) [.int .i64 d, .int .i64 l, .int .i64 f, .int .i64 s, .int .i64 o, .int .i64 n, .int .i64 x, .int .i64 c, .int .i64 k, .int .i64 a, .int .i64 t, .int .i64 c', .int .i64 k', .int .i64 a', .int .i64 t'] 54) := Lib.hid (sets_far (by omega) [.int .i64 c', .int .i64 k', .int .i64 a', .int .i64 t'] 11 A3)
  have HR3 : Hid (BoxF ((((w3.setCell ⟨w.heap.size + 1 + 1, 11, none⟩ (.int .i64 c')).setCell ⟨w.heap.size + 1 + 1, 12, none⟩ (.int .i64 k')).setCell ⟨w.heap.size + 1 + 1, 13, none⟩ (.int .i64 a')).setCell ⟨w.heap.size + 1 + 1, 14, none⟩ (.int .i64 t')) (w.heap.size + 1) [.int .i64 0, .int .i64 0, .int .i64 0, .int .i64 0, .int .i64 0, .int .i64 0, .int .i64 0, .int .i64 0, .int .i64 0, .int .i64 0, .int .i64 0, .int .i64 0, .int .i64 0, .int .i64 0, .int .i64 0] 60) := Lib.hid (sets_far (by omega) [.int .i64 c', .int .i64 k', .int .i64 a', .int .i64 t'] 11 R3)
  have HO3 : Hid (BoxF ((((w3.setCell ⟨w.heap.size + 1 + 1, 11, none⟩ (.int .i64 c')).setCell ⟨w.heap.size + 1 + 1, 12, none⟩ (.int .i64 k')).setCell ⟨w.heap.size + 1 + 1, 13, none⟩ (.int .i64 a')).setCell ⟨w.heap.size + 1 + 1, 14, none⟩ (.int .i64 t')) (w.heap.size + 1 + 1) [.int .i64 d, .int .i64 l, .int .i64 f, .int .i64 s, .int .i64 o, .int .i64 n, .int .i64 x, .int .i64 c, .int .i64 k, .int .i64 a, .int .i64 t, .int .i64 c', .int .i64 k', .int .i64 a', .int .i64 t'] 60) := Lib.hid (sets_box [.int .i64 c', .int .i64 k', .int .i64 a', .int .i64 t'] 11 O3)
  have HB3 : Hid (Below w.heap.size w ((((w3.setCell ⟨w.heap.size + 1 + 1, 11, none⟩ (.int .i64 c')).setCell ⟨w.heap.size + 1 + 1, 12, none⟩ (.int .i64 k')).setCell ⟨w.heap.size + 1 + 1, 13, none⟩ (.int .i64 a')).setCell ⟨w.heap.size + 1 + 1, 14, none⟩ (.int .i64 t'))) := Lib.hid (sets_below (by omega) [.int .i64 c', .int .i64 k', .int .i64 a', .int .i64 t'] 11 B3)
  have q0 := R3
  obtain ⟨z0, z1, z2, z3, z4, z5, z6, z7, z8, z9, z10, z11, z12, z13, z14, zf⟩ := q0.fifteen
  clear A3 O3 B3
  go_wp2_with fail
  clear x0 x1 x2 x3 x4 x5 x6 x7 x8 x9 x10 x11 x12 x13 x14 xf
  clear y0 y1 y2 y3 y4 y5 y6 y7 y8 y9 y10 y11 y12 y13 y14 yf
  have BB : Below w.heap.size w (((((((((((((((((((w3.setCell ⟨w.heap.size + 1 + 1, 11, none⟩ (.int .i64 c')).setCell ⟨w.heap.size + 1 + 1, 12, none⟩ (.int .i64 k')).setCell ⟨w.heap.size + 1 + 1, 13, none⟩ (.int .i64 a')).setCell ⟨w.heap.size + 1 + 1, 14, none⟩ (.int .i64 t')).setCell ⟨w.heap.size + 1, 0, none⟩ (.int .i64 d)).setCell ⟨w.heap.size + 1, 1, none⟩ (.int .i64 l)).setCell ⟨w.heap.size + 1, 2, none⟩ (.int .i64 f)).setCell ⟨w.heap.size + 1, 3, none⟩ (.int .i64 s)).setCell ⟨w.heap.size + 1, 4, none⟩ (.int .i64 o)).setCell ⟨w.heap.size + 1, 5, none⟩ (.int .i64 n)).setCell ⟨w.heap.size + 1, 6, none⟩ (.int .i64 x)).setCell ⟨w.heap.size + 1, 7, none⟩ (.int .i64 c)).setCell ⟨w.heap.size + 1, 8, none⟩ (.int .i64 k)).setCell ⟨w.heap.size + 1, 9, none⟩ (.int .i64 a)).setCell ⟨w.heap.size + 1, 10, none⟩ (.int .i64 t)).setCell ⟨w.heap.size + 1, 11, none⟩ (.int .i64 c')).setCell ⟨w.heap.size + 1, 12, none⟩ (.int .i64 k')).setCell ⟨w.heap.size + 1, 13, none⟩ (.int .i64 a')).setCell ⟨w.heap.size + 1, 14, none⟩ (.int .i64 t')) := sets_below (by omega) [.int .i64 d, .int .i64 l, .int .i64 f, .int .i64 s, .int .i64 o, .int .i64 n, .int .i64 x, .int .i64 c, .int .i64 k, .int .i64 a, .int .i64 t, .int .i64 c', .int .i64 k', .int .i64 a', .int .i64 t'] 0 HB3.out
  exact bodyPost_ret (v := .agg #[.int .i64 d, .int .i64 l, .int .i64 f, .int .i64 s, .int .i64 o, .int .i64 n, .int .i64 x, .int .i64 c, .int .i64 k, .int .i64 a, .int .i64 t, .int .i64 c', .int .i64 k', .int .i64 a', .int .i64 t']) (by simp [results, Tryd.results28, go_sem, rr, z0, z1, z2, z3, z4, z5, z6, z7, z8, z9, z10, z11, z12, z13, z14]) rfl ⟨rfl, BB⟩
end Go.Proofs.YthapidnjioindaaDoor
