/- Contracts: the model's number of differences between fields, and same parts. -/
import Derived.Test.YtmogabnngphfgaaDoorFields2
namespace Go.Proofs.YtmogabnngphfgaaDoor
open Go.RowKit

def fdif (d l f s d' l' f' s' : Int) : Int := (if d = d' then 0 else 1) + (if l = l' then 0 else 1) + (if tincL d f s = tincL d' f' s' then 0 else 1)
theorem fdif_eq {d l f s d' l' f' s' : Int} {r : Bool} (h : decide (tincL d f s = tincL d' f' s') = r) : fdif d l f s d' l' f' s' = (if d = d' then 0 else 1) + (if l = l' then 0 else 1) + (if r = true then 0 else 1) := by
  subst h; unfold fdif; simp
theorem box2d {w w1 : World} {o o' : Obj} {q : Nat} (hb : Below (((w.alloc o).alloc o').drewN q).heap.size (((w.alloc o).alloc o').drewN q) w1) : Below w.heap.size w w1 :=
  box2 (w := w) (o := o) (o' := o') (w1 := w1) ⟨hb.os, hb.tape, hb.output, hb.size, hb.block⟩
end Go.Proofs.YtmogabnngphfgaaDoor
