/- Contracts: the laws' toIntS, eqIntS, markIntS and heldIntS, at slices of numbers, nil ones too. -/
import Derived.Test.YtgoelkgdjnhklaaBase
import Derived.Test.YtgoelkgdjnhklaaProg
import Derived.WalkLawsBesides
import Derived.IntWalk
import Derived.OwnWalk
import Derived.Laws.OwnMore
import Derived.Deep.QuietTactic
import Derived.Maps.AppendAt
import Derived.Deep.RegionWith
import Derived.Deep.LoopGhost
import Derived.BigQuiet
namespace Go.Proofs.Ytgoelkgdjnhklaa
open Go.RowKit

theorem infoI : (Try.prog.info? 3).map (fun i => (i.zero, i.size, i.bytes)) = some (some (.int .i64 0), 1, 8) := by kernel_rfl
theorem cellI_lt {w : World} {b o : Nat} {v : Value} (h : w.cell? ⟨b, o, none⟩ = some v) : b < w.heap.size := by
  rcases Nat.lt_or_ge b w.heap.size with h1 | h1
  · exact h1
  · unfold World.cell? at h
    rw [Array.getElem?_eq_none h1] at h
    simp at h
/-- The slice of address a and length n reads as these numbers; its cells are old ones. -/
def RdI (w : World) (a : Option Addr) (n : Nat) (X : List Int) : Prop :=
  X.length = n ∧ (0 < n → ∃ b o, a = some ⟨b, o, none⟩ ∧ b < w.heap.size ∧ ∀ k, k < n → w.cell? ⟨b, o + k, none⟩ = some (.int .i64 (X.getD k 0)))
theorem RdI.below {w w' : World} {a : Option Addr} {n : Nat} {X : List Int} (h : RdI w a n X) (hb : Below w.heap.size w w') : RdI w' a n X :=
  ⟨h.1, fun hn => by
    obtain ⟨b, o, e, hlt, hc⟩ := h.2 hn
    exact ⟨b, o, e, Nat.lt_of_lt_of_le hlt hb.size, fun k hk => (hb.cell (p := ⟨b, o + k, none⟩) hlt).trans (hc k hk)⟩⟩
theorem RdI.drewN {w : World} {a : Option Addr} {n : Nat} {X : List Int} (h : RdI w a n X) (m : Nat) : RdI (w.drewN m) a n X := h
/-- The slice owns a row from block B on that holds these numbers (or is nil and holds none). -/
def OwnI (w : World) (B : Nat) (a : Option Addr) (n cap : Nat) (X : List Int) : Prop := w.ownsRow B 3 1 (.slice a n cap) n (X.map (Value.int .i64))
theorem OwnI.len {w : World} {B n cap : Nat} {a : Option Addr} {X : List Int} (h : OwnI w B a n cap X) : X.length = n := by have := h.1; simpa using this
theorem OwnI.kept {w w' : World} {B n cap : Nat} {a : Option Addr} {X : List Int} {row : Option Nat} (h : OwnI w B a n cap X) (hg : w.grownBy w' row) (hne : (Value.slice a n cap).ownBlock = none ∨ (Value.slice a n cap).ownBlock ≠ row) : OwnI w' B a n cap X := World.ownsRow.kept h hg hne
theorem OwnI.below {w w' : World} {B n cap : Nat} {a : Option Addr} {X : List Int} (h : OwnI w B a n cap X) (hb : Below w.heap.size w w') : OwnI w' B a n cap X :=
  World.ownsRow.kept (row := none) h ⟨hb.os, hb.tape, hb.output, hb.size, fun i hi _ => hb.block i hi⟩ (by cases h : (Value.slice a n cap).ownBlock <;> simp)
theorem OwnI.shape {w : World} {B n cap : Nat} {a : Option Addr} {X : List Int} (h : OwnI w B a n cap X) : (a = none ∧ n = 0 ∧ cap = 0 ∧ X = []) ∨ ∃ g, a = some ⟨g, 0, none⟩ ∧ B ≤ g ∧ g < w.heap.size := by
  have hl := h.len
  have hlt := World.ownsRow.lt h
  rcases h.2 with ⟨h1, h2⟩ | ⟨g, cp, cur, h1, h2, h3, _⟩
  · cases h1
    exact .inl ⟨rfl, rfl, rfl, List.eq_nil_of_length_eq_zero (by omega)⟩
  · cases h1
    exact .inr ⟨g, rfl, hlt g rfl⟩
theorem OwnI.rd {w : World} {B n cap : Nat} {a : Option Addr} {X : List Int} (h : OwnI w B a n cap X) : RdI w a n X := by
  have hl := h.len
  refine ⟨hl, fun hn => ?_⟩
  rcases h.shape with ⟨_, h0, _⟩ | ⟨g, rfl, hB, hg⟩
  · omega
  · refine ⟨g, 0, rfl, hg, fun k hk => ?_⟩
    rw [Nat.zero_add, World.ownsRow.cellAt h k (by omega)]
    simp [List.getD, hl, hk]
theorem OwnI.low {w : World} {B B' n cap : Nat} {a : Option Addr} {X : List Int} (h : OwnI w B a n cap X) (hB : B' ≤ B) : OwnI w B' a n cap X := by
  refine ⟨h.1, ?_⟩
  rcases h.2 with h1 | ⟨g, cp, cur, h1, h2, h3⟩
  · exact .inl h1
  · exact .inr ⟨g, cp, cur, h1, Nat.le_trans hB h2, h3⟩
theorem grownI_of_below {w w' : World} (hb : Below w.heap.size w w') (row : Option Nat) : w.grownBy w' row := ⟨hb.os, hb.tape, hb.output, hb.size, fun i hi _ => hb.block i hi⟩
theorem rdI_at {w : World} {b o n k : Nat} {X : List Int} {x : Int} (hc : ∀ k, k < n → w.cell? ⟨b, o + k, none⟩ = some (.int .i64 (X.getD k 0))) (hk : k < n) (hx : X[k]? = some x) :
    w.cell? ⟨b, o + k, none⟩ = some (.int .i64 x) := by rw [hc k hk]; simp [List.getD, hx]
theorem atI_of_lt {X : List Int} {k n : Nat} (hX : X.length = n) (hk : k < n) : ∃ x, X[k]? = some x ∧ x ∈ X :=
  ⟨X[k]'(by omega), List.getElem?_eq_getElem (by omega), List.getElem_mem _⟩




end Go.Proofs.Ytgoelkgdjnhklaa
