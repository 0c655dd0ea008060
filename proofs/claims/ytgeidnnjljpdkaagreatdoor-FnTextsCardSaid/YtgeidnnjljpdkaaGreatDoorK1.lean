/- Several small texts in one: Arms. -/
import Derived.Test.YtgeidnnjljpdkaaGreatDoorKC
import Derived.Test.YtgeidnnjljpdkaaGreatDoorKD
namespace Go.Proofs.YtgeidnnjljpdkaaGreatDoor
open Go.RowKit

theorem BoxF.fifteen {w : World} {b : Nat} {x0 x1 x2 x3 x4 x5 x6 x7 x8 x9 x10 x11 x12 x13 x14 : Value} {t : TypeId} (h : BoxF w b [x0, x1, x2, x3, x4, x5, x6, x7, x8, x9, x10, x11, x12, x13, x14] t) : w.cell? ⟨b, 0, none⟩ = some x0 ∧ w.cell? ⟨b, 1, none⟩ = some x1 ∧ w.cell? ⟨b, 2, none⟩ = some x2 ∧ w.cell? ⟨b, 3, none⟩ = some x3 ∧ w.cell? ⟨b, 4, none⟩ = some x4 ∧ w.cell? ⟨b, 5, none⟩ = some x5 ∧ w.cell? ⟨b, 6, none⟩ = some x6 ∧ w.cell? ⟨b, 7, none⟩ = some x7 ∧ w.cell? ⟨b, 8, none⟩ = some x8 ∧ w.cell? ⟨b, 9, none⟩ = some x9 ∧ w.cell? ⟨b, 10, none⟩ = some x10 ∧ w.cell? ⟨b, 11, none⟩ = some x11 ∧ w.cell? ⟨b, 12, none⟩ = some x12 ∧ w.cell? ⟨b, 13, none⟩ = some x13 ∧ w.cell? ⟨b, 14, none⟩ = some x14 ∧ ∀ i, w.frozen? ⟨b, i, none⟩ = false :=
  ⟨h.at 0, h.at 1, h.at 2, h.at 3, h.at 4, h.at 5, h.at 6, h.at 7, h.at 8, h.at 9, h.at 10, h.at 11, h.at 12, h.at 13, h.at 14, h.free⟩
/-- A run of stores from cell i on. -/
def sets (W : World) (b : Nat) : Nat → List Value → World
  | _, [] => W
  | i, v :: r => sets (W.setCell ⟨b, i, none⟩ v) b (i + 1) r
def putL (L : List Value) : Nat → List Value → List Value
  | _, [] => L
  | i, v :: r => putL (L.set i v) (i + 1) r
theorem sets_box {b : Nat} {t : TypeId} : ∀ (vs : List Value) (i : Nat) {W : World} {L : List Value}, BoxF W b L t → BoxF (sets W b i vs) b (putL L i vs) t
  | [], _, _, _, h => h
  | v :: r, i, _, _, h => sets_box r (i + 1) (h.set i v)
theorem sets_far {b c : Nat} {t : TypeId} {L : List Value} (hne : c ≠ b) : ∀ (vs : List Value) (i : Nat) {W : World}, BoxF W c L t → BoxF (sets W b i vs) c L t
  | [], _, _, h => h
  | v :: r, i, _, h => sets_far hne r (i + 1) (h.far i v hne)
theorem sets_below {n b : Nat} {w : World} (hb : n ≤ b) : ∀ (vs : List Value) (i : Nat) {W : World}, Below n w W → Below n w (sets W b i vs)
  | [], _, _, h => h
  | v :: r, i, _, h => sets_below hb r (i + 1) (h.setCell (p := ⟨b, i, none⟩) hb v)
theorem sets_size {b : Nat} : ∀ (vs : List Value) (i : Nat) (W : World), (sets W b i vs).heap.size = W.heap.size
  | [], _, _ => rfl
  | v :: r, i, W => (sets_size r (i + 1) _).trans (by simp)
/-- Fifteen stores, one after the other. -/
theorem grown15 (w : World) (b : Nat) (v0 v1 v2 v3 v4 v5 v6 v7 v8 v9 v10 v11 v12 v13 v14 : Value) : w.grownBy (((((((((((((((w.setCell ⟨b, 0, none⟩ v0).setCell ⟨b, 1, none⟩ v1).setCell ⟨b, 2, none⟩ v2).setCell ⟨b, 3, none⟩ v3).setCell ⟨b, 4, none⟩ v4).setCell ⟨b, 5, none⟩ v5).setCell ⟨b, 6, none⟩ v6).setCell ⟨b, 7, none⟩ v7).setCell ⟨b, 8, none⟩ v8).setCell ⟨b, 9, none⟩ v9).setCell ⟨b, 10, none⟩ v10).setCell ⟨b, 11, none⟩ v11).setCell ⟨b, 12, none⟩ v12).setCell ⟨b, 13, none⟩ v13).setCell ⟨b, 14, none⟩ v14) (some b) :=
  ((((((((((((((grownBy_set w b 0 v0).trans (grownBy_set _ b 1 v1)).trans (grownBy_set _ b 2 v2)).trans (grownBy_set _ b 3 v3)).trans (grownBy_set _ b 4 v4)).trans (grownBy_set _ b 5 v5)).trans (grownBy_set _ b 6 v6)).trans (grownBy_set _ b 7 v7)).trans (grownBy_set _ b 8 v8)).trans (grownBy_set _ b 9 v9)).trans (grownBy_set _ b 10 v10)).trans (grownBy_set _ b 11 v11)).trans (grownBy_set _ b 12 v12)).trans (grownBy_set _ b 13 v13)).trans (grownBy_set _ b 14 v14)
theorem BoxF.all15 {W : World} {b : Nat} {x0 x1 x2 x3 x4 x5 x6 x7 x8 x9 x10 x11 x12 x13 x14 v0 v1 v2 v3 v4 v5 v6 v7 v8 v9 v10 v11 v12 v13 v14 : Value} {t : TypeId} (h : BoxF W b [x0, x1, x2, x3, x4, x5, x6, x7, x8, x9, x10, x11, x12, x13, x14] t) : BoxF (((((((((((((((W.setCell ⟨b, 0, none⟩ v0).setCell ⟨b, 1, none⟩ v1).setCell ⟨b, 2, none⟩ v2).setCell ⟨b, 3, none⟩ v3).setCell ⟨b, 4, none⟩ v4).setCell ⟨b, 5, none⟩ v5).setCell ⟨b, 6, none⟩ v6).setCell ⟨b, 7, none⟩ v7).setCell ⟨b, 8, none⟩ v8).setCell ⟨b, 9, none⟩ v9).setCell ⟨b, 10, none⟩ v10).setCell ⟨b, 11, none⟩ v11).setCell ⟨b, 12, none⟩ v12).setCell ⟨b, 13, none⟩ v13).setCell ⟨b, 14, none⟩ v14) b [v0, v1, v2, v3, v4, v5, v6, v7, v8, v9, v10, v11, v12, v13, v14] t :=
  (((((((((((((((h).set 0 v0).set 1 v1).set 2 v2).set 3 v3).set 4 v4).set 5 v5).set 6 v6).set 7 v7).set 8 v8).set 9 v9).set 10 v10).set 11 v11).set 12 v12).set 13 v13).set 14 v14
end Go.Proofs.YtgeidnnjljpdkaaGreatDoor
