/- Contract: the laws' toBox. -/
import Derived.Test.YthapidnjioindaaDoorKLA
namespace Go.Proofs.YthapidnjioindaaDoor
open Go.RowKit

theorem markB_1 (X : List Bx) (B cap : Nat) (a : Option Addr) (w : World) (hown : OwnBx w B (.slice a X.length cap) X) (hn : X.length ≤ 1000) :
    Calls Tryd.prog 25 #[.slice a X.length cap, .int .i64 1] w fun e w' => e = .returned (.int .i64 (1 + (X.length : Int) * 3)) ∧ HeldBx w' a X.length 1 ∧ w.grownBy w' (Value.slice a X.length cap).ownBlock :=
  markB1 X X.length B cap 1 a w rfl hown hn (by omega)
theorem heldB_1 (n : Nat) (a : Option Addr) (c : Nat) (w : World) (h : HeldBx w a n 1) (hn : n ≤ 1000) :
    Calls Tryd.prog 26 #[.slice a n c, .int .i64 1] w fun e w' => e = .returned (.int .i64 (1 + (n : Int) * 3)) ∧ Below w.heap.size w w' :=
  (heldB1 n 1 a c w h hn (by omega)).mono fun _ _ ⟨he, m, hw⟩ => ⟨he, by rw [hw]; exact below_drewN' (Below.refl _ _) m⟩
end Go.Proofs.YthapidnjioindaaDoor
