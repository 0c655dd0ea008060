/- Contracts: the model's differences and sums of groups. -/
import Derived.Test.YtpcghkciibbmgaaDoorGroups
import Derived.Deep.RegionWith
namespace Go.Proofs.YtpcghkciibbmgaaDoor
open Go.RowKit

theorem box2e {w w1 : World} {o o' : Obj} (hb : Below ((w.alloc o).alloc o').drew.heap.size ((w.alloc o).alloc o').drew w1) : Below w.heap.size w w1 :=
  box2 (w := w) (o := o) (o' := o') (w1 := w1) ⟨hb.os, hb.tape, hb.output, hb.size, hb.block⟩
theorem Box.below_drew {w w' : World} {b : Nat} {L : List Value} (h : Box w b L) (hb : Below w.drew.heap.size w.drew w') : Box w' b L := Box.below (w := w.drew) h hb
/-- The number of differences between two groups. -/
def gdif (c k a t c' k' a' t' : Int) : Int := if gNoB c k a t = gNoB c' k' a' t' then (if c = c' then 0 else 1) + (if k = k' then (if a = a' then 0 else 1) else 2) + (if t = t' then 0 else 1) else 2
end Go.Proofs.YtpcghkciibbmgaaDoor
