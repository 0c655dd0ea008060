/- Contracts: any1; a cursor anew; rows of literals. -/
import Derived.Test.YthapidnjioindaaDoorPick
import Derived.OwnWalk
import Derived.Laws.OwnMore
import Derived.Laws.BytesArg
namespace Go.Proofs.YthapidnjioindaaDoor
open Go.RowKit

theorem alloc_size (w : World) (o : Obj) : (w.alloc o).heap.size = w.heap.size + 1 := by
  show (w.heap.push o).size = _
  exact Array.size_push ..
theorem IsCur.lt {w : World} {B p : Nat} {a : Option Addr} {n cap M : Nat} (h : IsCur w B p a n cap M) : p < w.heap.size := by
  obtain ⟨hB, hR, at_, seed, hat, hp⟩ := h
  rcases Nat.lt_or_ge p w.heap.size with h1 | h1
  · exact h1
  · rw [Array.getElem?_eq_none h1] at hp; cases hp
theorem IsCur.kept {w w' : World} {B p : Nat} {a : Option Addr} {n cap M : Nat} {row : Option Nat} (h : IsCur w B p a n cap M) (hg : w.grownBy w' row) (hr : ∀ k, row = some k → p < k) : IsCur w' B p a n cap M := by
  have hlt := h.lt
  obtain ⟨hB, hR, at_, seed, hat, hp⟩ := h
  refine ⟨hB, fun hn => ?_, at_, seed, hat, (hg.block p hlt (fun e => by have := hr p e.symm; omega)).trans hp⟩
  obtain ⟨b, o, e, hb, hc⟩ := hR hn
  refine ⟨b, o, e, hb, fun k hk => ?_⟩
  obtain ⟨x, hx, h0, h1⟩ := hc k hk
  exact ⟨x, (World.cell?_of_block (hg.block b (by omega) (fun e => by have := hr b e.symm; omega))).trans hx, h0, h1⟩
theorem IsCur.alloc {w : World} {B p : Nat} {a : Option Addr} {n cap M : Nat} (h : IsCur w B p a n cap M) (o : Obj) : IsCur (w.alloc o) B p a n cap M :=
  h.kept (World.grownBy_alloc w o none) (by simp)
theorem isCur_new {w : World} {a : Option Addr} {n : Nat} (cap : Nat) (h : RdB w w.heap.size a n) : IsCur (w.alloc (.cells #[.slice a n cap, .int .i64 0, .int .u64 0] 77 (0, 0))) w.heap.size w.heap.size a n cap 0 := by
  refine ⟨Nat.le_refl _, fun hn => ?_, 0, 0, Nat.le_refl _, by show (w.heap.push _)[w.heap.size]? = _; exact Array.getElem?_push_size⟩
  obtain ⟨b, o, e, hb, hc⟩ := h hn
  refine ⟨b, o, e, hb, fun k hk => ?_⟩
  obtain ⟨x, hx, h0, h1⟩ := hc k hk
  exact ⟨x, (World.cell?_of_block (Below.heap_alloc w _ b hb)).trans hx, h0, h1⟩
theorem RdB.on {w w' : World} {a : Option Addr} {n : Nat} (h : RdB w w.heap.size a n) (hb : Below w.heap.size w w') : RdB w' w'.heap.size a n := by
  intro hn
  obtain ⟨b, o, e, hlt, hc⟩ := h hn
  have := hb.size
  refine ⟨b, o, e, by omega, fun k hk => ?_⟩
  obtain ⟨x, hx, h0, h1⟩ := hc k hk
  exact ⟨x, (hb.cell (p := ⟨b, o + k, none⟩) hlt).trans hx, h0, h1⟩

def isShort (S : Nat) : Value → Bool
  | .string s => decide (s.size ≤ S)
  | _ => false
theorem alloc_cell (w : World) (l : Array Value) (t : TypeId) (k : Nat) : (w.alloc (.cells l t)).cell? ⟨w.heap.size, k, none⟩ = l[k]? := by
  have e : (w.alloc (.cells l t)).heap[w.heap.size]? = some (.cells l t) := by show (w.heap.push _)[w.heap.size]? = _; exact Array.getElem?_push_size
  simp only [World.cell?, e]
  rfl
def isNum (L : Nat) : Value → Prop
  | .int .i64 x => -(L : Int) ≤ x ∧ x ≤ L
  | _ => False
theorem numRow_alloc (w : World) (l : Array Value) (t : TypeId) (L m : Nat) (hm : l.size = m) (h : ∀ v ∈ l.toList, isNum L v) : NumRow (w.alloc (.cells l t)) w.heap.size m L := by
  intro k hk
  rw [alloc_cell]
  have hk2 : k < l.size := by omega
  have h1 := h l[k] (by simp)
  rw [Array.getElem?_eq_getElem hk2]
  revert h1
  generalize l[k] = v
  intro h1
  unfold isNum at h1
  split at h1
  · exact ⟨_, rfl, h1⟩
  · exact h1.elim

def isNumP (P : Int → Prop) : Value → Prop
  | .int .i64 x => P x
  | _ => False
theorem numRowP_alloc (w : World) (l : Array Value) (t : TypeId) (P : Int → Prop) (m : Nat) (hm : l.size = m) (h : ∀ v ∈ l.toList, isNumP P v) : NumRowP (w.alloc (.cells l t)) w.heap.size m P := by
  intro k hk
  rw [alloc_cell]
  have hk2 : k < l.size := by omega
  have h1 := h l[k] (by simp)
  rw [Array.getElem?_eq_getElem hk2]
  revert h1
  generalize l[k] = v
  intro h1
  unfold isNumP at h1
  split at h1
  · exact ⟨_, rfl, h1⟩
  · exact h1.elim
end Go.Proofs.YthapidnjioindaaDoor
