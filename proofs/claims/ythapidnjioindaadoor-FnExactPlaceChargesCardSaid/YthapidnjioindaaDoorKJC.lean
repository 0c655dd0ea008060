/- Several small texts in one: C10F, C10P, C10Q. -/
import Derived.Test.YthapidnjioindaaDoorKJB
import Derived.Test.YthapidnjioindaaDoorKIA
import Derived.Deep.RegionHeld3
import Derived.Test.YthapidnjioindaaDoorKJA
namespace Go.Proofs.YthapidnjioindaaDoor
open Go.RowKit

/-- The numbers are a valid field's and a cell's of the shield. -/
def okPart (d l f s x y : Int) : Bool := decide (FOk d l f s) && shZ x y
def partA (d l x y : Int) : Int := if lnFirst d l x.toNat y.toNat then 0 else 1
theorem shZ_out {x y : Int} (h : shZ x y = true) : ∃ a b : Nat, x = a ∧ y = b ∧ a < 20 ∧ b < 24 := by
  unfold shZ at h
  simp only [Bool.and_eq_true, decide_eq_true_eq] at h
  exact ⟨x.toNat, y.toNat, by omega, by omega, by omega, by omega⟩
end Go.Proofs.YthapidnjioindaaDoor
namespace Go.Proofs.YthapidnjioindaaDoor
open Go.RowKit

theorem least_any (a b : Int) (w : World) :
    Calls Tryd.prog 88 #[.int .i64 a, .int .i64 b] w fun e w' => e = .returned (.int .i64 (if b < a then b else a)) ∧ w = w' := by
  by_cases h : b < a
  · rw [if_pos h]
    have e1 : decide (b < a) = true := decide_eq_true h
    have e2 : decide (a < b) = false := decide_eq_false (by omega)
    have e3 : decide (a ≤ b) = false := decide_eq_false (by omega)
    go_enter Tryd.func88, Tryd.ntmps88
    go_wp2_with fail
    go_ret
    exact ⟨rfl, rfl⟩
  · rw [if_neg h]
    by_cases h2 : a < b
    · have e1 : decide (b < a) = false := decide_eq_false h
      have e2 : decide (a < b) = true := decide_eq_true h2
      go_enter Tryd.func88, Tryd.ntmps88
      go_wp2_with fail
      go_ret
      exact ⟨rfl, rfl⟩
    · obtain rfl : a = b := by omega
      have e1 : decide (a < a) = false := decide_eq_false h
      go_enter Tryd.func88, Tryd.ntmps88
      go_wp2_with fail
      go_ret
      exact ⟨rfl, rfl⟩
theorem l10Down_any (l : Int) (x y : Nat) (w : World) (h0 : 0 ≤ l) (h1 : l ≤ 4) (hx : x < 20) (hy : y < 24) :
    Calls Tryd.prog 127 #[.int .i64 l, .int .i64 (x : Int), .int .i64 (y : Int)] w fun e w' => e = .returned (.int .i64 (swF l x y)) ∧ Below w.heap.size w w' := by
  have CD := Lib.hid (fun W => l9Down_any x y W (by omega) (by omega) (by omega) (by omega))
  change Hid (∀ W, Calls _ _ _ W fun e w' => e = .returned (.int .i64 (fallZ x y)) ∧ W = w') at CD
  have CO := fun W => l10Offset_any l (x + y) W h0 h1 (by omega)
  rw [show ((x + y : Nat) : Int) = (x : Int) + (y : Int) by omega] at CO
  have CO := Lib.hid CO
  have hz := offZ_in l (x + y)
  have hf : -10000 ≤ fallZ x y ∧ fallZ x y ≤ 10000 := by unfold fallZ; omega
  unfold swF
  generalize offZ l (x + y) = z at *
  generalize fallZ x y = f at *
  clear h0 h1
  go_enter Tryd.func127, Tryd.ntmps127
  go_wp2_with fail
  refine (CD.out _).mono ?_
  rintro e w' ⟨rfl, rfl⟩
  go_wp2_with fail
  refine (CO.out _).mono ?_
  rintro e w' ⟨rfl, hb⟩
  go_wp2_with fail
  go_ret
  exact ⟨rfl, hb⟩
theorem l10Down_rise (l : Int) (x y : Nat) (w : World) (h0 : 0 ≤ l) (h1 : l ≤ 4) (hx : x < 20) (hy : y < 24) :
    Calls Tryd.prog 127 #[.int .i64 l, .int .i64 (19 - (x : Int)), .int .i64 (y : Int)] w fun e w' => e = .returned (.int .i64 (swR l x y)) ∧ Below w.heap.size w w' := by
  have h := l10Down_any l (19 - x) y w h0 h1 (by omega) hy
  rw [show ((19 - x : Nat) : Int) = 19 - (x : Int) by omega] at h
  have e : swF l (19 - x) y = swR l x y := by
    unfold swF swR
    have : fallZ (19 - x) y = riseZ x y := by unfold fallZ riseZ; omega
    rw [this]
  rw [e] at h
  exact h
theorem clamp_nat (v : Int) (m : Nat) : ∃ c : Nat, c ≤ m ∧ (c : Int) = clampZ v m ∧ (if 0 < (if v < (m : Int) then v else (m : Int)) then (if v < (m : Int) then v else (m : Int)) else 0) = (c : Int) := by
  refine ⟨(clampZ v m).toNat, ?_, ?_, ?_⟩
  all_goals (unfold clampZ; repeat' split)
  all_goals omega
theorem clamp_lt {v : Int} {c m : Nat} {k : Int} (h : (c : Int) = clampZ v m) (h0 : 0 < k) (h1 : k ≤ m) : decide ((c : Int) < k) = decide (v < k) := by
  rw [h]
  unfold clampZ
  by_cases h2 : v < k
  · rw [decide_eq_true h2]
    apply decide_eq_true
    repeat' split
    all_goals omega
  · rw [decide_eq_false h2]
    apply decide_eq_false
    repeat' split
    all_goals omega

end Go.Proofs.YthapidnjioindaaDoor
namespace Go.Proofs.YthapidnjioindaaDoor
open Go.RowKit

theorem l3Good_dec (d l f s : Int) (W : World) (p : Bool) (hp : decide (FOk d l f s) = p) :
    Calls Tryd.prog 100 #[.agg #[.int .i64 d, .int .i64 l, .int .i64 f, .int .i64 s]] W fun e w' => e = .returned (.bool p) ∧ Below W.heap.size W w' := by
  cases p
  · exact l3Good_no d l f s W (of_decide_eq_false hp)
  · exact l3Good_yes d l f s W (of_decide_eq_true hp)
/-- The tincture of a cell. -/
def tincA (d l f s x y : Int) : Int := if okPart d l f s x y then (if partA d l x y = 0 then f else s) else 0
end Go.Proofs.YthapidnjioindaaDoor
