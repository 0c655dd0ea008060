/- Contracts: the regions of the shield, of parts and of ordinaries, the program's and the model's. -/
import Derived.Test.YthapidnjioindaaC9W
import Derived.Test.YthapidnjioindaaC9O
namespace Go.Proofs.Ythapidnjioindaa
open Go.RowKit

/-- An answer that is a region of these rows and a truth value, in memory of its own. -/
def AnsRB (W : World) (X : List Int) (n : Nat) (ok : Bool) (e : Ending) (w' : World) : Prop := ∃ (a : Option Addr) (c : Nat), e = .returned (.tuple #[.agg #[.slice a n c], .bool ok]) ∧ OwnI w' W.heap.size a n c X ∧ Below W.heap.size W w'
theorem rowsOfR_len (f : Nat → Nat) : (rowsOfR f).length = 24 := by simp [rowsOfR]
theorem reg_shB : regN shB = shN := by
  funext y; unfold regN shN; simp

theorem shield_impl (w : World) : Calls Try.prog 22 #[] w (AnsR w shN) := by
  have b0 := BoxF.new w [.slice none 0 0] 34
  have hb0 : Below w.heap.size w (w.alloc (.cells #[.slice none 0 0] 34 (0, 0))) := (Below.refl _ w).alloc (Nat.le_refl _) _
  have X0 := Lib.hid b0
  have HB0 := Lib.hid hb0
  clear b0 hb0
  go_enter Try.func22, Try.ntmps22
  go_wp2_with fail
  refine (whereIn shB _ (fun W _ x y hx hy => (inShield_impl x y W).mono (fun e w' h => ⟨by rw [h.1, shZ_nat hx hy], by rw [h.2]; exact Below.refl _ _⟩))).mono ?_
  rintro e w1 ⟨g, rfl, ho, hb1⟩
  rw [reg_shB] at ho
  have X1 := X0.out.below hb1
  have HB1 := HB0.out.trans (hb1.mono HB0.out.size)
  obtain ⟨c0, f0⟩ := X1.one
  have hf0 := f0 0
  have X9 := X1.set 0 (.slice (some ⟨g, 0, none⟩) 24 24)
  obtain ⟨z0, _⟩ := X9.one
  have HG := grownBy_set w1 w.heap.size 0 (.slice (some ⟨g, 0, none⟩) 24 24)
  have hgg := (World.ownsRow.lt ho g rfl).1
  simp only [World.size_alloc] at hgg
  have HO9 := Lib.hid (OwnI.kept (OwnI.low ho (B' := w.heap.size) (by simp)) HG (by right; simp [Value.ownBlock]; omega))
  have HB9 := Lib.hid (HB1.grown HG HB1.size (fun q hq => by cases hq; exact Nat.le_refl _))
  clear X9 HG ho hb1 f0 X1 HB1 X0 HB0
  go_wp2_with fail
  exact bodyPost_ret (v := .agg #[.slice (some ⟨g, 0, none⟩) 24 24]) (by simp [results, Try.results22, go_sem, z0]) rfl ⟨_, rfl, HO9.out, HB9.out⟩

theorem grownBy_drewN {w w' : World} {r : Option Nat} (h : w.grownBy w' r) (m : Nat) : w.grownBy (w'.drewN m) r := ⟨h.os, h.tape, h.output, h.size, h.block⟩
end Go.Proofs.Ythapidnjioindaa
