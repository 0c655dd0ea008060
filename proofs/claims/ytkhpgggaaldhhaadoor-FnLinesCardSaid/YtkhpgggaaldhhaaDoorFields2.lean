/- Contracts: the model's parts, swapping, plain fields, differences and same parts. -/
import Derived.Test.YtkhpgggaaldhhaaDoorFields
import Derived.Test.YtkhpgggaaldhhaaDoorLists
namespace Go.Proofs.YtkhpgggaaldhhaaDoor
open Go.RowKit

def partL (d f s : Int) : List Int := if d = 0 then [f] else if d ≤ 3 then [f, s] else if d ≤ 5 then [f, s, s, f] else [f, s, f, s, f, s]
theorem partL_len (d f s : Int) : (partL d f s).length ≤ 6 := by unfold partL; split; simp; split; simp; split <;> simp
theorem ansL_at {w W : World} {n : Nat} (X : List Int) (hX : X.length ≤ 1000) (hb : Below w.heap.size w W) (hn : n = W.heap.size) : AnsL w X (.returned (.slice (some ⟨n, 0, none⟩) X.length X.length)) (W.alloc (.cells (X.map (Value.int .i64)).toArray 3 (0, 0))) := by
  subst hn; exact ansL_below (ansL_lit W X hX) hb
theorem ans_at {w W : World} {n : Nat} (ok : Bool) (X : List Int) (hX : X.length ≤ 1000) (hb : Below w.heap.size w W) (hn : n = W.heap.size) : Ans w X ok (.returned (.tuple #[.slice (some ⟨n, 0, none⟩) X.length X.length, .bool ok])) (W.alloc (.cells (X.map (Value.int .i64)).toArray 3 (0, 0))) := by
  subst hn; exact ans_below (ans_lit W ok X hX) hb
/-- The answer: this field and this boolean. -/
def AnsF (w : World) (d l f s : Int) (ok : Bool) (e : Ending) (w' : World) : Prop := e = .returned (.tuple #[.agg #[.int .i64 d, .int .i64 l, .int .i64 f, .int .i64 s], .bool ok]) ∧ Below w.heap.size w w'
theorem box2 {w w1 : World} {o o' : Obj} (hb : Below ((w.alloc o).alloc o').heap.size ((w.alloc o).alloc o') w1) : Below w.heap.size w w1 :=
  (((Below.refl w.heap.size w).alloc (Nat.le_refl _) o).alloc (by simp) o').trans (hb.mono (by simp; omega))
/-- Block b holds these cells. -/
def Box (w : World) (b : Nat) (L : List Value) : Prop := b < w.heap.size ∧ ∀ i v, L[i]? = some v → w.cell? ⟨b, i, none⟩ = some v
theorem Box.below {w w' : World} {b : Nat} {L : List Value} (h : Box w b L) (hb : Below w.heap.size w w') : Box w' b L :=
  ⟨Nat.lt_of_lt_of_le h.1 hb.size, fun i v hv => (hb.cell (p := ⟨b, i, none⟩) h.1).trans (h.2 i v hv)⟩
theorem Box.alloc {w : World} {b : Nat} {L : List Value} (h : Box w b L) (o : Obj) : Box (w.alloc o) b L := h.below ((Below.refl _ w).alloc (Nat.le_refl _) o)
theorem Box.new (w : World) (L : List Value) (t : TypeId) : Box (w.alloc (.cells L.toArray t (0, 0))) w.heap.size L := by
  refine ⟨by simp, fun i v hv => ?_⟩
  have e : (w.alloc (.cells L.toArray t (0, 0))).heap[w.heap.size]? = some (.cells L.toArray t (0, 0)) := by show (w.heap.push _)[w.heap.size]? = _; exact Array.getElem?_push_size
  simp only [World.cell?, e]
  simpa using hv
end Go.Proofs.YtkhpgggaaldhhaaDoor
