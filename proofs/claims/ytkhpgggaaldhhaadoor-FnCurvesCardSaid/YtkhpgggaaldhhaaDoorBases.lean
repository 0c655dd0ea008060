/- Contracts: BaseTinctures of the program and of the model, and what an answer that is a list is. -/
import Derived.Test.YtkhpgggaaldhhaaDoorTMath
import Derived.Test.YtkhpgggaaldhhaaDoorIntRows
namespace Go.Proofs.YtkhpgggaaldhhaaDoor
open Go.RowKit

/-- The answer: this list in memory of the call's own, and this boolean. -/
def Ans (w : World) (X : List Int) (ok : Bool) (e : Ending) (w' : World) : Prop :=
  ∃ a cap, e = .returned (.tuple #[.slice a X.length cap, .bool ok]) ∧ OwnI w' w.heap.size a X.length cap X ∧ Below w.heap.size w w'
def AnsL (w : World) (X : List Int) (e : Ending) (w' : World) : Prop :=
  ∃ a cap, e = .returned (.slice a X.length cap) ∧ OwnI w' w.heap.size a X.length cap X ∧ Below w.heap.size w w'
theorem ownI_lit (w : World) (B : Nat) (hB : B ≤ w.heap.size) (X : List Int) (hX : X.length ≤ 1000) : OwnI (w.alloc (.cells (X.map (Value.int .i64)).toArray 3 (0, 0))) B (some ⟨w.heap.size, 0, none⟩) X.length X.length X := by
  unfold OwnI
  have := World.ownsRow_lit (e := 3) (size := 1) w (X.map (Value.int .i64)).toArray X.length hB (by unfold maxLen; omega) (by simp)
  simpa using this
theorem ans_nil (w : World) (ok : Bool) : Ans w [] ok (.returned (.tuple #[.slice none 0 0, .bool ok])) w := ⟨none, 0, rfl, ownI_nil _ _, Below.refl _ _⟩
theorem ans_lit (w : World) (ok : Bool) (X : List Int) (hX : X.length ≤ 1000) : Ans w X ok (.returned (.tuple #[.slice (some ⟨w.heap.size, 0, none⟩) X.length X.length, .bool ok])) (w.alloc (.cells (X.map (Value.int .i64)).toArray 3 (0, 0))) :=
  ⟨_, _, rfl, ownI_lit w _ (Nat.le_refl _) X hX, (Below.refl _ _).alloc (Nat.le_refl _) _⟩
theorem ansL_lit (w : World) (X : List Int) (hX : X.length ≤ 1000) : AnsL w X (.returned (.slice (some ⟨w.heap.size, 0, none⟩) X.length X.length)) (w.alloc (.cells (X.map (Value.int .i64)).toArray 3 (0, 0))) :=
  ⟨_, _, rfl, ownI_lit w _ (Nat.le_refl _) X hX, (Below.refl _ _).alloc (Nat.le_refl _) _⟩
theorem base_8 {x : Int} (h : x = 8) : baseL x = [2, 5] := by simp [baseL, h]
theorem base_9 {x : Int} (h : x = 9) : baseL x = [2, 4] := by simp [baseL, h]
theorem base_x {x : Int} (h : x ≠ 8) (h9 : x ≠ 9) : baseL x = [x] := by simp [baseL, h, h9]
theorem base_len (x : Int) : (baseL x).length ≤ 2 := by unfold baseL; split; simp; split <;> simp

end Go.Proofs.YtkhpgggaaldhhaaDoor
