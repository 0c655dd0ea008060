/- Slices of strings of the call's own, nil or not: what reads them, marks them, answers with them. -/
import Derived.Test.YtklfkdmmclomoaaDoorStrs
namespace Go.Proofs.YtklfkdmmclomoaaDoor
open Go.RowKit

def OwnS (w : World) (B : Nat) (a : Option Addr) (n cap : Nat) (X : List ByteArray) : Prop := w.ownsRow B 9 1 (.slice a n cap) n (X.map Value.string)
theorem OwnS.len {w : World} {B n cap : Nat} {a : Option Addr} {X : List ByteArray} (h : OwnS w B a n cap X) : X.length = n := by have := h.1; simpa using this
theorem OwnS.kept {w w' : World} {B n cap : Nat} {a : Option Addr} {X : List ByteArray} {row : Option Nat} (h : OwnS w B a n cap X) (hg : w.grownBy w' row) (hne : (Value.slice a n cap).ownBlock = none ∨ (Value.slice a n cap).ownBlock ≠ row) : OwnS w' B a n cap X := World.ownsRow.kept h hg hne
theorem OwnS.below {w w' : World} {B n cap : Nat} {a : Option Addr} {X : List ByteArray} (h : OwnS w B a n cap X) (hb : Below w.heap.size w w') : OwnS w' B a n cap X :=
  World.ownsRow.kept (row := none) h ⟨hb.os, hb.tape, hb.output, hb.size, fun i hi _ => hb.block i hi⟩ (by cases h : (Value.slice a n cap).ownBlock <;> simp)
theorem OwnS.shape {w : World} {B n cap : Nat} {a : Option Addr} {X : List ByteArray} (h : OwnS w B a n cap X) : (a = none ∧ n = 0 ∧ cap = 0 ∧ X = []) ∨ ∃ g, a = some ⟨g, 0, none⟩ ∧ B ≤ g ∧ g < w.heap.size := by
  have hl := h.len
  have hlt := World.ownsRow.lt h
  rcases h.2 with ⟨h1, h2⟩ | ⟨g, cp, cur, h1, h2, h3, _⟩
  · cases h1
    exact .inl ⟨rfl, rfl, rfl, List.eq_nil_of_length_eq_zero (by omega)⟩
  · cases h1
    exact .inr ⟨g, rfl, hlt g rfl⟩
theorem OwnS.rd {w : World} {B n cap : Nat} {a : Option Addr} {X : List ByteArray} (h : OwnS w B a n cap X) : RdS w a n X := by
  have hl := h.len
  refine ⟨hl, fun hn => ?_⟩
  rcases h.shape with ⟨_, h0, _⟩ | ⟨g, rfl, hB, hg⟩
  · omega
  · refine ⟨g, 0, rfl, hg, fun k hk => ?_⟩
    rw [Nat.zero_add, World.ownsRow.cellAt h k (by omega)]
    simp [List.getD, hl, hk]
def AnsT (w : World) (X : List ByteArray) (ok : Bool) (e : Ending) (w' : World) : Prop :=
  ∃ a cap, e = .returned (.tuple #[.slice a X.length cap, .bool ok]) ∧ OwnS w' w.heap.size a X.length cap X ∧ Below w.heap.size w w'
def AnsTL (w : World) (X : List ByteArray) (e : Ending) (w' : World) : Prop :=
  ∃ a cap, e = .returned (.slice a X.length cap) ∧ OwnS w' w.heap.size a X.length cap X ∧ Below w.heap.size w w'
theorem ownS_lit (w : World) (B : Nat) (hB : B ≤ w.heap.size) (X : List ByteArray) (hX : X.length ≤ 1000) : OwnS (w.alloc (.cells (X.map Value.string).toArray 9 (0, 0))) B (some ⟨w.heap.size, 0, none⟩) X.length X.length X := by
  unfold OwnS
  have := World.ownsRow_lit (e := 9) (size := 1) w (X.map Value.string).toArray X.length hB (by unfold maxLen; omega) (by simp)
  simpa using this
theorem ownS_nil (w : World) (B : Nat) : OwnS w B none 0 0 [] := World.ownsRow_nil _ _ _ _
theorem ansT_nil (w : World) (ok : Bool) : AnsT w [] ok (.returned (.tuple #[.slice none 0 0, .bool ok])) w := ⟨none, 0, rfl, ownS_nil _ _, Below.refl _ _⟩
theorem ansT_lit (w : World) (ok : Bool) (X : List ByteArray) (hX : X.length ≤ 1000) : AnsT w X ok (.returned (.tuple #[.slice (some ⟨w.heap.size, 0, none⟩) X.length X.length, .bool ok])) (w.alloc (.cells (X.map Value.string).toArray 9 (0, 0))) :=
  ⟨_, _, rfl, ownS_lit w _ (Nat.le_refl _) X hX, (Below.refl _ _).alloc (Nat.le_refl _) _⟩
theorem ansTL_lit (w : World) (X : List ByteArray) (hX : X.length ≤ 1000) : AnsTL w X (.returned (.slice (some ⟨w.heap.size, 0, none⟩) X.length X.length)) (w.alloc (.cells (X.map Value.string).toArray 9 (0, 0))) :=
  ⟨_, _, rfl, ownS_lit w _ (Nat.le_refl _) X hX, (Below.refl _ _).alloc (Nat.le_refl _) _⟩
theorem markStringS_nil (a : Option Addr) (c : Nat) (w : World) :
    Calls Tryd.prog 37 #[.slice a 0 c, .int .i64 1] w fun e w' => e = .returned (.int .i64 1) ∧ w = w' := by
  go_enter Tryd.func37, Tryd.ntmps37
  go_wp2
  refine wp_loop_rounds 1 ?_
  rw [rounds_succ]
  go_wp2
  go_ret
  exact ⟨rfl, rfl⟩
def marksS (n : Nat) : List ByteArray := (List.range n).map fun i => mtext (1 + i)
theorem mark1S (X : List ByteArray) (n B cap : Nat) (a : Option Addr) (w : World) (hown : OwnS w B a n cap X) (hn : n ≤ 1048577) :
    Calls Tryd.prog 37 #[.slice a n cap, .int .i64 1] w fun e w' => e = .returned (.int .i64 (1 + (n : Int))) ∧ OwnS w' B a n cap (marksS n) ∧ w.grownBy w' (Value.slice a n cap).ownBlock := by
  have hl := hown.len
  rcases hown.shape with ⟨rfl, rfl, rfl, rfl⟩ | ⟨g, rfl, _, _⟩
  · exact (markStringS_nil _ _ _).mono fun e w' ⟨he, hw⟩ => ⟨he, by subst hw; exact hown, by subst hw; exact World.grownBy.refl _ _⟩
  · exact (show Calls Tryd.prog 37 #[.slice (some ⟨g, 0, none⟩) n cap, .int .i64 1] w _ from markStringS_any (X.map Value.string) n g cap B 1 w hown hn (by omega) (by omega)).mono fun e w' ⟨he, ho, hg⟩ => ⟨he, by
      rw [marked_all (by simpa using hl)] at ho
      unfold OwnS marksS
      rw [List.map_map]; exact ho, hg⟩
theorem held1S (n : Nat) (a : Option Addr) (c : Nat) (w : World) (h : RdS w a n (marksS n)) (hn : n ≤ 1048577) :
    Calls Tryd.prog 38 #[.slice a n c, .int .i64 1] w fun e w' => e = .returned (.int .i64 (1 + (n : Int))) ∧ Below w.heap.size w w' := heldStringS_any n 1 a c w h hn (by omega) (by omega)
end Go.Proofs.YtklfkdmmclomoaaDoor
