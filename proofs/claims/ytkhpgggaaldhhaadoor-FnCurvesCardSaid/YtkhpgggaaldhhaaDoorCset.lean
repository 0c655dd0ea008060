/- Cells behind a write elsewhere. -/
import Derived.WalkKit
import Derived.Below
namespace Go.Proofs.YtkhpgggaaldhhaaDoor
open Go.RowKit

theorem cset_o (w : World) (b i j : Nat) (v : Value) (h : i ≠ j) : (w.setCell ⟨b, i, none⟩ v).cell? ⟨b, j, none⟩ = w.cell? ⟨b, j, none⟩ :=
  World.cell?_setCell_other _ _ _ _ (fun e => h (Addr.mk.inj e).2.1)
theorem cset_b (w : World) (b c i j : Nat) (v : Value) (h : b ≠ c) : (w.setCell ⟨b, i, none⟩ v).cell? ⟨c, j, none⟩ = w.cell? ⟨c, j, none⟩ :=
  World.cell?_setCell_other _ _ _ _ (fun e => h (Addr.mk.inj e).1)
end Go.Proofs.YtkhpgggaaldhhaaDoor
