/- Boxes: a block of cells that holds these values (as in DrawField, for seats without fields). -/
import Derived.Test.YtmmbhglmafnfpaaIntRows
namespace Go.Proofs.Ytmmbhglmafnfpaa
open Go.RowKit

/-- Block b is a box of these cells. -/
def BoxF (w : World) (b : Nat) (L : List Value) (t : TypeId) : Prop := w.heap[b]? = some (.cells L.toArray t (0, 0))
theorem BoxF.new (w : World) (L : List Value) (t : TypeId) : BoxF (w.alloc (.cells L.toArray t (0, 0))) w.heap.size L t := by
  show (w.heap.push _)[w.heap.size]? = _; exact Array.getElem?_push_size
theorem BoxF.lt {w : World} {b : Nat} {L : List Value} {t : TypeId} (h : BoxF w b L t) : b < w.heap.size := by
  rcases Nat.lt_or_ge b w.heap.size with h1 | h1
  · exact h1
  · unfold BoxF at h; rw [Array.getElem?_eq_none h1] at h; cases h
theorem BoxF.kept {w w' : World} {b : Nat} {L : List Value} {t : TypeId} {row : Option Nat} (h : BoxF w b L t) (hg : w.grownBy w' row) (hne : some b ≠ row) : BoxF w' b L t := (hg.block b h.lt hne).trans h
theorem BoxF.alloc {w : World} {b : Nat} {L : List Value} {t : TypeId} (h : BoxF w b L t) (o : Obj) : BoxF (w.alloc o) b L t := h.kept (World.grownBy_alloc w o none) (by simp)
theorem BoxF.set {w : World} {b : Nat} {L : List Value} {t : TypeId} (h : BoxF w b L t) (i : Nat) (v : Value) : BoxF (w.setCell ⟨b, i, none⟩ v) b (L.set i v) t := by
  have h1 := heap_setCell_same w b i L.toArray t v h
  unfold BoxF
  rw [h1]
  congr 2
  apply Array.toList_inj.1
  simp
theorem BoxF.far {w : World} {b b' : Nat} {L : List Value} {t : TypeId} (h : BoxF w b L t) (i : Nat) (v : Value) (hne : b ≠ b') : BoxF (w.setCell ⟨b', i, none⟩ v) b L t := (heap_setCell_other w ⟨b', i, none⟩ b v hne).trans h
theorem BoxF.at {w : World} {b : Nat} {L : List Value} {t : TypeId} (h : BoxF w b L t) (i : Nat) : w.cell? ⟨b, i, none⟩ = L[i]? := by
  unfold BoxF at h
  simp only [World.cell?, h]
  simp
theorem BoxF.free {w : World} {b : Nat} {L : List Value} {t : TypeId} (h : BoxF w b L t) (i : Nat) : w.frozen? ⟨b, i, none⟩ = false := by
  unfold BoxF at h
  simp [World.frozen?, h]
theorem BoxF.below {w w' : World} {b : Nat} {L : List Value} {t : TypeId} (h : BoxF w b L t) (hb : Below w.heap.size w w') : BoxF w' b L t := (hb.block b h.lt).trans h
theorem grownBy_set (w : World) (b i : Nat) (v : Value) : w.grownBy (w.setCell ⟨b, i, none⟩ v) (some b) :=
  ⟨rfl, rfl, rfl, by simp, fun k _ hk => heap_setCell_other w ⟨b, i, none⟩ k v (fun e => hk (by rw [e]))⟩
theorem BoxF.one {w : World} {b : Nat} {x0 : Value} {t : TypeId} (h : BoxF w b [x0] t) : w.cell? ⟨b, 0, none⟩ = some x0 ∧ (∀ i, w.frozen? ⟨b, i, none⟩ = false) := ⟨h.at 0, h.free⟩
theorem BoxF.drew {w : World} {b : Nat} {L : List Value} {t : TypeId} (h : BoxF w b L t) (m : Nat) : BoxF (w.drewN m) b L t := h
theorem OwnI.drewN {w : World} {B n cap : Nat} {a : Option Addr} {X : List Int} (h : OwnI w B a n cap X) (m : Nat) : OwnI (w.drewN m) B a n cap X := h
theorem ownI_append {w : World} {B : Nat} {v : Value} {n : Nat} {X : List Int} (h : w.ownsRow B 3 1 v n (X.map (Value.int .i64))) : ∃ a cap, v = .slice a n cap ∧ OwnI w B a n cap X := by
  rcases h.2 with ⟨rfl, rfl⟩ | ⟨g, cap, cur, rfl, h2, h3⟩
  · exact ⟨none, 0, rfl, h⟩
  · exact ⟨some ⟨g, 0, none⟩, cap, rfl, h⟩
theorem sliceR {w : World} {B : Nat} {v : Value} {n : Nat} {X Y : List Int} (h : w.ownsRow B 3 1 v n (X.map (Value.int .i64))) (e : X = Y) : w.ownsRow B 3 1 v Y.length (Y.map (Value.int .i64)) := by
  subst e
  have hl : X.length = n := by have := h.1; simpa using this
  rw [hl]; exact h
theorem app_len {w : World} {B : Nat} {v : Value} {n : Nat} {X : List Int} (h : w.ownsRow B 3 1 v n (X.map (Value.int .i64))) : X.length = n := by have := h.1; simpa using this
theorem app_one {w : World} {B : Nat} {v : Value} {n : Nat} {X : List Int} {x : Int} (h : w.ownsRow B 3 1 v n (X.map (Value.int .i64) ++ [.int .i64 x])) : w.ownsRow B 3 1 v n ((X ++ [x]).map (Value.int .i64)) := by simpa using h
end Go.Proofs.Ytmmbhglmafnfpaa
