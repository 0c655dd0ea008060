/- Contracts: fields by value: the laws' toField and eqField; the model's validity, tinctures, parts. -/
import Derived.Test.YtklfkdmmclomoaaDoorBases
namespace Go.Proofs.YtklfkdmmclomoaaDoor
open Go.RowKit

/-- Old cells and old marks read as before. -/
theorem bcell {W w1 : World} (hb : Below W.heap.size W w1) : (∀ b o, b < W.heap.size → w1.cell? ⟨b, o, none⟩ = W.cell? ⟨b, o, none⟩) ∧ (∀ b o, b < W.heap.size → w1.frozen? ⟨b, o, none⟩ = W.frozen? ⟨b, o, none⟩) :=
  ⟨fun b o h => hb.cell (p := ⟨b, o, none⟩) h, fun b o h => hb.frozen (p := ⟨b, o, none⟩) h⟩


/-- A field's numbers are valid. -/
def FOk (d l f s : Int) : Prop := (0 ≤ d ∧ d ≤ 7) ∧ (0 ≤ l ∧ l ≤ 4) ∧ (1 ≤ f ∧ f ≤ 9) ∧ ((d = 0 ∧ l = 0 ∧ s = 0) ∨ (d ≠ 0 ∧ (1 ≤ s ∧ s ≤ 9) ∧ s ≠ f))
instance (d l f s : Int) : Decidable (FOk d l f s) := by unfold FOk; infer_instance
def tincL (d f s : Int) : List Int := if d = 0 then [f] else [f, s]
theorem tincL_0 {d f s : Int} (h : d = 0) : tincL d f s = [f] := if_pos h
theorem tincL_1 {d f s : Int} (h : d ≠ 0) : tincL d f s = [f, s] := if_neg h
theorem tincL_len (d f s : Int) : (tincL d f s).length ≤ 2 := by unfold tincL; split <;> simp
theorem ansL_below {w w0 w' : World} {X : List Int} {e : Ending} (h : AnsL w0 X e w') (hb : Below w.heap.size w w0) : AnsL w X e w' := by
  obtain ⟨a, cap, he, ho, hb'⟩ := h
  exact ⟨a, cap, he, ho.low hb.size, hb.trans (hb'.mono hb.size)⟩
theorem ans_below {w w0 w' : World} {X : List Int} {ok : Bool} {e : Ending} (h : Ans w0 X ok e w') (hb : Below w.heap.size w w0) : Ans w X ok e w' := by
  obtain ⟨a, cap, he, ho, hb'⟩ := h
  exact ⟨a, cap, he, ho.low hb.size, hb.trans (hb'.mono hb.size)⟩
/-- A list laid behind a box. -/
theorem ansL_lit1 (w : World) (o : Obj) (X : List Int) (hX : X.length ≤ 1000) : AnsL w X (.returned (.slice (some ⟨w.heap.size + 1, 0, none⟩) X.length X.length)) ((w.alloc o).alloc (.cells (X.map (Value.int .i64)).toArray 3 (0, 0))) := by
  have h := ansL_below (ansL_lit (w.alloc o) X hX) ((Below.refl _ w).alloc (Nat.le_refl _) o)
  rw [World.size_alloc] at h
  exact h
theorem ans_lit1 (w : World) (o : Obj) (ok : Bool) (X : List Int) (hX : X.length ≤ 1000) : Ans w X ok (.returned (.tuple #[.slice (some ⟨w.heap.size + 1, 0, none⟩) X.length X.length, .bool ok])) ((w.alloc o).alloc (.cells (X.map (Value.int .i64)).toArray 3 (0, 0))) := by
  have h := ans_below (ans_lit (w.alloc o) ok X hX) ((Below.refl _ w).alloc (Nat.le_refl _) o)
  rw [World.size_alloc] at h
  exact h
end Go.Proofs.YtklfkdmmclomoaaDoor
