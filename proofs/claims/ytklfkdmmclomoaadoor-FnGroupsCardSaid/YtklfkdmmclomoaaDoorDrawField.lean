/- Contracts: the draw of a valid field. -/
import Derived.Test.YtklfkdmmclomoaaDoorDrawTin
import Derived.Test.YtklfkdmmclomoaaDoorFields
namespace Go.Proofs.YtklfkdmmclomoaaDoor
open Go.RowKit

/-- Block b is a box of these cells. -/
def BoxF (w : World) (b : Nat) (L : List Value) (t : TypeId) : Prop := w.heap[b]? = some (.cells L.toArray t (0, 0))
theorem BoxF.new (w : World) (L : List Value) (t : TypeId) : BoxF (w.alloc (.cells L.toArray t (0, 0))) w.heap.size L t := by
  show (w.heap.push _)[w.heap.size]? = _; exact Array.getElem?_push_size
theorem BoxF.lt {w : World} {b : Nat} {L : List Value} {t : TypeId} (h : BoxF w b L t) : b < w.heap.size := by
  rcases Nat.lt_or_ge b w.heap.size with h1 | h1
  · exact h1
  · unfold BoxF at h; rw [Array.getElem?_eq_none h1] at h; cases h
theorem BoxF.kept {w w' : World} {b : Nat} {L : List Value} {t : TypeId} {row : Option Nat} (h : BoxF w b L t) (hg : w.grownBy w' row) (hne : some b ≠ row) : BoxF w' b L t := (hg.block b h.lt hne).trans h
theorem BoxF.alloc {w : World} {b : Nat} {L : List Value} {t : TypeId} (h : BoxF w b L t) (o : Obj) : BoxF (w.alloc o) b L t := h.kept (World.grownBy_alloc w o none) (by simp)
theorem BoxF.set {w : World} {b : Nat} {L : List Value} {t : TypeId} (h : BoxF w b L t) (i : Nat) (v : Value) : BoxF (w.setCell ⟨b, i, none⟩ v) b (L.set i v) t := by
  have h1 := heap_setCell_same w b i L.toArray t v h
  unfold BoxF
  rw [h1]
  congr 2
  apply Array.toList_inj.1
  simp
theorem BoxF.far {w : World} {b b' : Nat} {L : List Value} {t : TypeId} (h : BoxF w b L t) (i : Nat) (v : Value) (hne : b ≠ b') : BoxF (w.setCell ⟨b', i, none⟩ v) b L t := (heap_setCell_other w ⟨b', i, none⟩ b v hne).trans h
theorem BoxF.at {w : World} {b : Nat} {L : List Value} {t : TypeId} (h : BoxF w b L t) (i : Nat) : w.cell? ⟨b, i, none⟩ = L[i]? := by
  unfold BoxF at h
  simp only [World.cell?, h]
  simp
theorem BoxF.free {w : World} {b : Nat} {L : List Value} {t : TypeId} (h : BoxF w b L t) (i : Nat) : w.frozen? ⟨b, i, none⟩ = false := by
  unfold BoxF at h
  simp [World.frozen?, h]
theorem BoxF.below {w w' : World} {b : Nat} {L : List Value} {t : TypeId} (h : BoxF w b L t) (hb : Below w.heap.size w w') : BoxF w' b L t := (hb.block b h.lt).trans h
theorem grownBy_set (w : World) (b i : Nat) (v : Value) : w.grownBy (w.setCell ⟨b, i, none⟩ v) (some b) :=
  ⟨rfl, rfl, rfl, by simp, fun k _ hk => heap_setCell_other w ⟨b, i, none⟩ k v (fun e => hk (by rw [e]))⟩
/-- The four cells of a box. -/
theorem BoxF.four {w : World} {b : Nat} {x0 x1 x2 x3 : Value} {t : TypeId} (h : BoxF w b [x0, x1, x2, x3] t) : w.cell? ⟨b, 0, none⟩ = some x0 ∧ w.cell? ⟨b, 1, none⟩ = some x1 ∧ w.cell? ⟨b, 2, none⟩ = some x2 ∧ w.cell? ⟨b, 3, none⟩ = some x3 ∧ (∀ i, w.frozen? ⟨b, i, none⟩ = false) :=
  ⟨h.at 0, h.at 1, h.at 2, h.at 3, h.free⟩

theorem fok_plain {f : Int} (h0 : 1 ≤ f) (h1 : f ≤ 9) : FOk 0 0 f 0 := ⟨by omega, by omega, ⟨h0, h1⟩, .inl ⟨rfl, rfl, rfl⟩⟩
theorem fok_drawn {f q l r : Int} (h0 : 1 ≤ f) (h1 : f ≤ 9) (hq0 : 0 ≤ q) (hq1 : q < 7) (hl0 : 0 ≤ l) (hl1 : l ≤ 4) (hr0 : 0 ≤ r) (hr1 : r < 8) : FOk (1 + q) l f (1 + (f + r) % 9) :=
  ⟨by omega, ⟨hl0, hl1⟩, ⟨h0, h1⟩, .inr ⟨by omega, by omega, by omega⟩⟩

theorem grown4 (w : World) (b : Nat) (v0 v1 v2 v3 : Value) : w.grownBy ((((w.setCell ⟨b, 0, none⟩ v0).setCell ⟨b, 1, none⟩ v1).setCell ⟨b, 2, none⟩ v2).setCell ⟨b, 3, none⟩ v3) (some b) :=
  (((grownBy_set w b 0 v0).trans (grownBy_set _ b 1 v1)).trans (grownBy_set _ b 2 v2)).trans (grownBy_set _ b 3 v3)
def DrewField (w : World) (B p : Nat) (a : Option Addr) (n cap M : Nat) (e : Ending) (w' : World) : Prop :=
  (∃ d l f s : Int, e = .returned (.agg #[.int .i64 d, .int .i64 l, .int .i64 f, .int .i64 s]) ∧ FOk d l f s) ∧ IsCur w' B p a n cap M ∧ w.grownBy w' (some p)
end Go.Proofs.YtklfkdmmclomoaaDoor
