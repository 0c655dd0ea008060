/- Contracts: the laws' eqFindingS, markFindingS and heldFindingS. -/
import Derived.Test.YtmmbhglmafnfpabDoorE8Find
import Derived.Test.YtmmbhglmafnfpabDoorKA
import Derived.Deep.RegionWith
import Derived.Deep.LoopGhost
namespace Go.Proofs.YtmmbhglmafnfpabDoor
open Go.RowKit

theorem fcells_at : ∀ {X : List Fnd} {k : Nat} {F : Fnd}, X[k]? = some F → (fcells X)[k * 3]? = some (.int .i64 F.p) ∧ (fcells X)[k * 3 + 1]? = some (.int .i64 F.u) ∧ (fcells X)[k * 3 + 2]? = some (.int .i64 F.l)
  | [], _, _, h => by simp at h
  | G :: X, 0, F, h => by
    simp at h
    subst h
    exact ⟨rfl, rfl, rfl⟩
  | G :: X, k + 1, F, h => by
    have ih := fcells_at (X := X) (k := k) (F := F) (by simpa using h)
    have e : fcells (G :: X) = fcell G ++ fcells X := rfl
    have q : ∀ j, (fcells (G :: X))[j + 3]? = (fcells X)[j]? := fun j => by
      rw [e, List.getElem?_append_right (by simp [fcell])]; simp [fcell]
    have e0 : (k + 1) * 3 = k * 3 + 3 := by omega
    have e1 : (k + 1) * 3 + 1 = (k * 3 + 1) + 3 := by omega
    have e2 : (k + 1) * 3 + 2 = (k * 3 + 2) + 3 := by omega
    rw [e0, q, show k * 3 + 3 + 1 = (k * 3 + 1) + 3 by omega, q, show k * 3 + 3 + 2 = (k * 3 + 2) + 3 by omega, q]
    exact ih
/-- The slice of address a reads as these findings; its cells are old ones. -/
def RdFn (w : World) (a : Option Addr) (n : Nat) (X : List Fnd) : Prop :=
  X.length = n ∧ (0 < n → ∃ b o, a = some ⟨b, o, none⟩ ∧ b < w.heap.size ∧ ∀ k F, X[k]? = some F → w.cell? ⟨b, o + k * 3, none⟩ = some (.int .i64 F.p) ∧ w.cell? ⟨b, o + k * 3 + 1, none⟩ = some (.int .i64 F.u) ∧ w.cell? ⟨b, o + k * 3 + 2, none⟩ = some (.int .i64 F.l))
theorem RdFn.below {w w' : World} {a : Option Addr} {n : Nat} {X : List Fnd} (h : RdFn w a n X) (hb : Below w.heap.size w w') : RdFn w' a n X :=
  ⟨h.1, fun hn => by
    obtain ⟨b, o, e, hlt, hc⟩ := h.2 hn
    exact ⟨b, o, e, Nat.lt_of_lt_of_le hlt hb.size, fun k F hk => ⟨(hb.cell (p := ⟨b, o + k * 3, none⟩) hlt).trans (hc k F hk).1, (hb.cell (p := ⟨b, o + k * 3 + 1, none⟩) hlt).trans (hc k F hk).2.1, (hb.cell (p := ⟨b, o + k * 3 + 2, none⟩) hlt).trans (hc k F hk).2.2⟩⟩⟩
theorem OwnFn.shape {w : World} {B cap : Nat} {a : Option Addr} {X : List Fnd} (h : OwnFn w B (.slice a X.length cap) X) : (a = none ∧ cap = 0 ∧ X = []) ∨ ∃ g, a = some ⟨g, 0, none⟩ ∧ B ≤ g ∧ g < w.heap.size := by
  have hlt := World.ownsRow.lt h
  rcases h.2 with ⟨h1, h2⟩ | ⟨g, cp, cur, h1, h2, h3, _⟩
  · simp only [Value.slice.injEq] at h1
    exact .inl ⟨h1.1, h1.2.2, List.eq_nil_of_length_eq_zero h1.2.1⟩
  · simp only [Value.slice.injEq] at h1
    obtain ⟨rfl, _, _⟩ := h1
    exact .inr ⟨g, rfl, h2, (hlt g rfl).2⟩
theorem OwnFn.rd {w : World} {B cap : Nat} {a : Option Addr} {X : List Fnd} (h : OwnFn w B (.slice a X.length cap) X) : RdFn w a X.length X := by
  refine ⟨rfl, fun hn => ?_⟩
  rcases h.shape with ⟨_, _, rfl⟩ | ⟨g, rfl, _, hg⟩
  · simp at hn
  · refine ⟨g, 0, rfl, hg, fun k F hk => ?_⟩
    have hkl : k < X.length := (List.getElem?_eq_some_iff.1 hk).1
    obtain ⟨c0, c1, c2⟩ := fcells_at hk
    refine ⟨?_, ?_, ?_⟩
    · rw [Nat.zero_add]; exact (World.ownsRow.cellAt h (k * 3) (by omega)).trans c0
    · rw [Nat.zero_add]; exact (World.ownsRow.cellAt h (k * 3 + 1) (by omega)).trans c1
    · rw [Nat.zero_add]; exact (World.ownsRow.cellAt h (k * 3 + 2) (by omega)).trans c2
theorem atF_of_lt {X : List Fnd} {k n : Nat} (hX : X.length = n) (hk : k < n) : ∃ F, X[k]? = some F := ⟨X[k]'(by omega), List.getElem?_eq_getElem (by omega)⟩

theorem rdFn_of {w : World} {B n cap : Nat} {a : Option Addr} {X : List Fnd} (hX : X.length = n) (h : OwnFn w B (.slice a n cap) X) : RdFn w a n X := by
  subst hX; exact h.rd
theorem rdFn_grown {w0 w w' : World} {a : Option Addr} {n : Nat} {X : List Fnd} {row : Option Nat} (h0 : RdFn w0 a n X) (h : RdFn w a n X) (hg : w.grownBy w' row) (hne : ∀ q, row = some q → w0.heap.size ≤ q) : RdFn w' a n X :=
  ⟨h.1, fun hn => by
    obtain ⟨b0, o0, e0, hlt0, _⟩ := h0.2 hn
    obtain ⟨b, o, e, hlt, hc⟩ := h.2 hn
    rw [e0] at e
    cases e
    have q : some b0 ≠ row := fun e => by have := hne b0 e.symm; omega
    exact ⟨b0, o0, e0, Nat.lt_of_lt_of_le hlt hg.size, fun k F hk => ⟨hg.cell (hc k F hk).1 q, hg.cell (hc k F hk).2.1 q, hg.cell (hc k F hk).2.2 q⟩⟩⟩
end Go.Proofs.YtmmbhglmafnfpabDoor
