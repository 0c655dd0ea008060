/- Several small texts in one: Groups2, Groups3, RGroups2. -/
import Derived.Test.YthapidnjioindaaDoorKC
import Derived.Deep.RegionWith
import Derived.Test.YthapidnjioindaaDoorKG
import Derived.Test.YthapidnjioindaaDoorKQ
namespace Go.Proofs.YthapidnjioindaaDoor
open Go.RowKit

theorem box2e {w w1 : World} {o o' : Obj} (hb : Below ((w.alloc o).alloc o').drew.heap.size ((w.alloc o).alloc o').drew w1) : Below w.heap.size w w1 :=
  box2 (w := w) (o := o) (o' := o') (w1 := w1) ⟨hb.os, hb.tape, hb.output, hb.size, hb.block⟩
theorem Box.below_drew {w w' : World} {b : Nat} {L : List Value} (h : Box w b L) (hb : Below w.drew.heap.size w.drew w') : Box w' b L := Box.below (w := w.drew) h hb
/-- The number of differences between two groups. -/
def gdif (c k a t c' k' a' t' : Int) : Int := if gNoB c k a t = gNoB c' k' a' t' then (if c = c' then 0 else 1) + (if k = k' then (if a = a' then 0 else 1) else 2) + (if t = t' then 0 else 1) else 2
end Go.Proofs.YthapidnjioindaaDoor
namespace Go.Proofs.YthapidnjioindaaDoor
open Go.RowKit

/-- A group that may stand: valid or none. -/
def gAnyB (c k a t : Int) : Bool := gNoB c k a t || gOkB c k a t
end Go.Proofs.YthapidnjioindaaDoor
namespace Go.Proofs.YthapidnjioindaaDoor
open Go.RowKit

theorem gNo_out {c k a t : Int} (h : gNoB c k a t = true) : c = 0 ∧ k = 0 ∧ a = 0 ∧ t = 0 := by simpa [gNoB] using h
theorem gNo_not {c k a t : Int} (h : gNoB c k a t = false) : ¬ (c = 0 ∧ k = 0 ∧ a = 0 ∧ t = 0) := by simpa [gNoB] using h
set_option maxRecDepth 100000 in
set_option maxHeartbeats 4000000 in
theorem groupOrNone_impl (c k a t : Int) (w : World) (r : Bool) (hr : gAnyB c k a t = r) (hA : AttsLie w) :
    Calls Tryd.prog 107 #[.agg #[.int .i64 c, .int .i64 k, .int .i64 a, .int .i64 t]] w fun e w' => e = .returned (.bool r) ∧ Below w.heap.size w w' := by
  unfold gAnyB at hr
  rcases Bool.eq_false_or_eq_true (gNoB c k a t) with h0 | h0
  · rw [h0, Bool.true_or] at hr
    subst hr
    obtain ⟨rfl, rfl, rfl, rfl⟩ := gNo_out h0
    clear hA h0
    go_enter Tryd.func107, Tryd.ntmps107
    go_wp2_with fail
    go_ret
    exact ⟨rfl, (Below.refl _ _).alloc (Nat.le_refl _) _⟩
  · rw [h0, Bool.false_or] at hr
    have NE := gNo_not h0
    have CV := Lib.hid (fun W (hb : Below w.heap.size w W) => validGroup_impl c k a t W r hr (hA.below hb))
    clear hA hr h0
    by_cases hc : c = 0
    · subst hc
      by_cases hk : k = 0
      · subst hk
        by_cases ha : a = 0
        · subst ha
          have ht : ¬ t = 0 := fun h => NE ⟨rfl, rfl, rfl, h⟩
          clear NE
          go_enter Tryd.func107, Tryd.ntmps107
          go_wp2_with (go_at_call 129; (with_reducible refine (CV.out _ ((Below.refl _ w).alloc (Nat.le_refl _) _)).mono ?_); rintro e w1 ⟨rfl, h1⟩)
          go_ret
          exact ⟨rfl, ((Below.refl _ w).alloc (Nat.le_refl _) _).trans (h1.mono (by simp))⟩
        · clear NE
          go_enter Tryd.func107, Tryd.ntmps107
          go_wp2_with (go_at_call 129; (with_reducible refine (CV.out _ ((Below.refl _ w).alloc (Nat.le_refl _) _)).mono ?_); rintro e w1 ⟨rfl, h1⟩)
          go_ret
          exact ⟨rfl, ((Below.refl _ w).alloc (Nat.le_refl _) _).trans (h1.mono (by simp))⟩
      · clear NE
        go_enter Tryd.func107, Tryd.ntmps107
        go_wp2_with (go_at_call 129; (with_reducible refine (CV.out _ ((Below.refl _ w).alloc (Nat.le_refl _) _)).mono ?_); rintro e w1 ⟨rfl, h1⟩)
        go_ret
        exact ⟨rfl, ((Below.refl _ w).alloc (Nat.le_refl _) _).trans (h1.mono (by simp))⟩
    · clear NE
      go_enter Tryd.func107, Tryd.ntmps107
      go_wp2_with (go_at_call 129; (with_reducible refine (CV.out _ ((Below.refl _ w).alloc (Nat.le_refl _) _)).mono ?_); rintro e w1 ⟨rfl, h1⟩)
      go_ret
      exact ⟨rfl, ((Below.refl _ w).alloc (Nat.le_refl _) _).trans (h1.mono (by simp))⟩
end Go.Proofs.YthapidnjioindaaDoor
