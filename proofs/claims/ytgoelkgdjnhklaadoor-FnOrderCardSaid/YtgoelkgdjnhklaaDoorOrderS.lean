/- What is kept in the loop of FnOrder, and in its statement with two loads. -/
import Derived.Test.YtgoelkgdjnhklaaDoorOrderB
namespace Go.Proofs.YtgoelkgdjnhklaaDoor
open Go.RowKit

def OS (w : World) (p0 : Option Addr) (N : Nat) (Y : List Int) (la : Option Addr) (lenX : Nat) (X : List Arm) (W : World) : Prop := RdI W p0 N Y ∧ RdA W la lenX X ∧ Below w.heap.size w W
theorem OS.below {w W W' : World} {p0 la : Option Addr} {N lenX : Nat} {Y : List Int} {X : List Arm} (h : OS w p0 N Y la lenX X W) (hb : Below W.heap.size W W') : OS w p0 N Y la lenX X W' := ⟨h.1.below hb, h.2.1.below hb, h.2.2.trans (hb.mono h.2.2.size)⟩
theorem rangeAt_below {W W' : World} {b o : Nat} {cs : List Value} (h : W.rangeAt b o cs) (hb : Below W.heap.size W W') : W'.rangeAt b o cs := fun j v hv => (hb.cell (p := ⟨b, o + j, none⟩) (World.block_lt_of_cell? W _ (h j v hv))).trans (h j v hv)
/-- The cells that the two loads read, and all else. -/
def OSt (w : World) (p0 : Option Addr) (N : Nat) (Y : List Int) (la : Option Addr) (lenX : Nat) (X : List Arm) (lb o1 o0 : Nat) (L1 L0 : List Value) (gq c1 c0 : Nat) (v1 v0 : Value) (W : World) : Prop :=
  W.rangeAt lb o1 L1 ∧ W.rangeAt lb o0 L0 ∧ W.cell? ⟨gq, c1, none⟩ = some v1 ∧ W.cell? ⟨gq, c0, none⟩ = some v0 ∧ OS w p0 N Y la lenX X W
theorem OSt.below {w W W' : World} {p0 la : Option Addr} {N lenX : Nat} {Y : List Int} {X : List Arm} {lb o1 o0 gq c1 c0 : Nat} {L1 L0 : List Value} {v1 v0 : Value} (h : OSt w p0 N Y la lenX X lb o1 o0 L1 L0 gq c1 c0 v1 v0 W) (hb : Below W.heap.size W W') : OSt w p0 N Y la lenX X lb o1 o0 L1 L0 gq c1 c0 v1 v0 W' :=
  ⟨rangeAt_below h.1 hb, rangeAt_below h.2.1 hb, (hb.cell (p := ⟨gq, c1, none⟩) (World.block_lt_of_cell? W _ h.2.2.1)).trans h.2.2.1, (hb.cell (p := ⟨gq, c0, none⟩) (World.block_lt_of_cell? W _ h.2.2.2.1)).trans h.2.2.2.1, h.2.2.2.2.below hb⟩
theorem row_range {W : World} {b o q : Nat} {A : Arm} (h : ∀ j z, A.ints[j]? = some z → W.cell? ⟨b, o + q * 15 + j, none⟩ = some (.int .i64 z)) : W.rangeAt b (o + q * 15) [.int .i64 A.d, .int .i64 A.l, .int .i64 A.f, .int .i64 A.s, .int .i64 A.o, .int .i64 A.n, .int .i64 A.x, .int .i64 A.c, .int .i64 A.k, .int .i64 A.a, .int .i64 A.t, .int .i64 A.c', .int .i64 A.k', .int .i64 A.a', .int .i64 A.t'] := by
  rcases Nat.lt_or_ge b W.heap.size with hb | hb
  · exact rowA (Below.refl _ W) hb h
  · exact absurd (World.block_lt_of_cell? W _ (h 0 A.d rfl)) (by show ¬ b < W.heap.size; omega)
end Go.Proofs.YtgoelkgdjnhklaaDoor
