/- Plain facts of chapter 10: the offsets of lines, and cells as they are seen with a line. -/
import Derived.Test.YtkhpgggaaldhhaaDoorC9O
namespace Go.Proofs.YtkhpgggaaldhhaaDoor
open Go.RowKit

/-- The offsets of a line over one period. -/
def offL (l : Int) : List Int := if l = 1 then [0, 1, 1, 0] else if l = 2 then [0, 1, 1, 0, 0, -1, -1, 0] else if l = 3 then [0, 0, 2, 2] else if l = 4 then [0, 1, 2, 1] else [0]
theorem offL_0 : offL 0 = [0] := by simp [offL]
theorem offL_1 : offL 1 = [0, 1, 1, 0] := by simp [offL]
theorem offL_2 : offL 2 = [0, 1, 1, 0, 0, -1, -1, 0] := by simp [offL]
theorem offL_3 : offL 3 = [0, 0, 2, 2] := by simp [offL]
theorem offL_4 : offL 4 = [0, 1, 2, 1] := by simp [offL]
theorem offL_pos (l : Int) : 0 < (offL l).length := by
  unfold offL
  repeat' split
  all_goals simp
theorem offL_le (l : Int) : (offL l).length ≤ 8 := by
  unfold offL
  repeat' split
  all_goals simp
theorem offL_mem (l : Int) : ∀ z ∈ offL l, -1 ≤ z ∧ z ≤ 2 := by
  unfold offL
  repeat' split
  all_goals decide
/-- The offset of a line at a place. -/
def offZ (l : Int) (t : Nat) : Int := (offL l).getD (t % (offL l).length) 0
theorem offZ_at (l : Int) (t : Nat) : (offL l)[t % (offL l).length]? = some (offZ l t) := by
  have h := Nat.mod_lt t (offL_pos l)
  unfold offZ
  rw [List.getElem?_eq_getElem h]
  simp [List.getD, h]
theorem offZ_in (l : Int) (t : Nat) : -1 ≤ offZ l t ∧ offZ l t ≤ 2 := offL_mem l _ (List.mem_of_getElem? (offZ_at l t))
theorem offZ_zero (t : Nat) : offZ 0 t = 0 := by unfold offZ; rw [offL_0]; simp [Nat.mod_one]
/-- The numbers of the cell (x, y) with a line. -/
def swX (l : Int) (x y : Nat) : Int := (x : Int) - offZ l y
def swY (l : Int) (x y : Nat) : Int := (y : Int) - offZ l x
def swF (l : Int) (x y : Nat) : Int := fallZ x y - 40 * offZ l (x + y)
def swR (l : Int) (x y : Nat) : Int := riseZ x y - 40 * offZ l (19 - x + y)
def swG (l : Int) (x y : Nat) : Int := gableZ x y - 2 * offZ l x
theorem swX_in (l : Int) {x : Nat} (y : Nat) (hx : x < 20) : -2 ≤ swX l x y ∧ swX l x y ≤ 20 := by have := offZ_in l y; unfold swX; omega
theorem swY_in (l : Int) (x : Nat) {y : Nat} (hy : y < 24) : -2 ≤ swY l x y ∧ swY l x y ≤ 24 := by have := offZ_in l x; unfold swY; omega
theorem swF_in (l : Int) {x y : Nat} (hx : x < 20) (hy : y < 24) : -10000 ≤ swF l x y ∧ swF l x y ≤ 10000 := by have := offZ_in l (x + y); unfold swF fallZ; omega
theorem swR_in (l : Int) {x y : Nat} (hx : x < 20) (hy : y < 24) : -10000 ≤ swR l x y ∧ swR l x y ≤ 10000 := by have := offZ_in l (19 - x + y); unfold swR riseZ; omega
theorem gableZ_in {x y : Nat} (hx : x < 20) (hy : y < 24) : -100 ≤ gableZ x y ∧ gableZ x y ≤ 100 := by unfold gableZ absZ; split <;> omega
theorem swG_in (l : Int) {x y : Nat} (hx : x < 20) (hy : y < 24) : -1000 ≤ swG l x y ∧ swG l x y ≤ 1000 := by have := offZ_in l x; have := gableZ_in hx hy; unfold swG; omega
/-- The cell is of the first part of a field with this division and line. -/
def lnFirst (d l : Int) (x y : Nat) : Bool := firstS d (swX l x y) (swY l x y) (swF l x y) (swR l x y)
/-- The cell is of the ordinary with this line. -/
def lnOrd (o l : Int) (x y : Nat) : Bool := ordS o (swX l x y) (swY l x y) (swF l x y) (swR l x y) (swG l x y)
theorem lnFirst_zero (d : Int) {x y : Nat} (hx : x < 20) (hy : y < 24) : lnFirst d 0 x y = firstB d x y := by
  unfold lnFirst swX swY swF swR
  simp only [offZ_zero]
  rw [← firstB_firstS hx hy]
  simp
theorem lnOrd_zero (o : Int) (x y : Nat) : lnOrd o 0 x y = ordB o x y := by
  unfold lnOrd swX swY swF swR swG
  simp only [offZ_zero]
  rw [← ordB_ordS]
  simp
theorem part_bool (f : Bool) (p : Int) (h0 : 0 ≤ p) (h1 : p ≤ 1) : ((if f = true then (0 : Int) else 1) == p) = (f == (p == 0)) := by
  have hp : p = 0 ∨ p = 1 := by omega
  rcases hp with rfl | rfl <;> cases f <;> simp
/-- The places from 1 to k at which the offset differs from the one before. -/
def turnZ (l : Int) : Nat → Nat
  | 0 => 0
  | k + 1 => turnZ l k + if offZ l (k + 1) = offZ l k then 0 else 1
theorem turnZ_le (l : Int) : ∀ k, turnZ l k ≤ k
  | 0 => by simp [turnZ]
  | k + 1 => by
    have := turnZ_le l k
    unfold turnZ
    split <;> omega
end Go.Proofs.YtkhpgggaaldhhaaDoor
