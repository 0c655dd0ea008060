/- Several small texts in one: C9P, C9O. -/
import Derived.Test.YthapidnjioindaaDoorKIA
namespace Go.Proofs.YthapidnjioindaaDoor
open Go.RowKit

/-- A number without its sign. -/
def absZ (n : Int) : Int := if n < 0 then -n else n
/-- Above the diagonal, by how much. -/
def fallZ (x y : Nat) : Int := 24 * (2 * (x : Int) + 1) - 20 * (2 * (y : Int) + 1)
def riseZ (x y : Nat) : Int := 24 * (40 - (2 * (x : Int) + 1)) - 20 * (2 * (y : Int) + 1)
def gableZ (x y : Nat) : Int := 2 * (y : Int) + 1 - absZ (2 * (x : Int) + 1 - 20)
/-- The cell is of the first part. -/
def firstB (d : Int) (x y : Nat) : Bool :=
  if d = 1 then decide ((x : Int) < 10) else if d = 2 then decide ((y : Int) < 12) else if d = 3 then decide (0 < fallZ x y)
  else if d = 4 then (decide ((x : Int) < 10) == decide ((y : Int) < 12)) else if d = 5 then (decide (0 < fallZ x y) == decide (0 < riseZ x y))
  else if d = 6 then 6 * (x : Int) / 20 % 2 == 0 else if d = 7 then 6 * (y : Int) / 24 % 2 == 0 else true
theorem abs_any (n : Int) (w : World) (h0 : -1000000 ≤ n) (h1 : n ≤ 1000000) :
    Calls Tryd.prog 132 #[.int .i64 n] w fun e w' => e = .returned (.int .i64 (absZ n)) ∧ w = w' := by
  by_cases h : n < 0
  · rw [show absZ n = -n by unfold absZ; rw [if_pos h]]
    go_enter Tryd.func132, Tryd.ntmps132
    go_wp2_with fail
    go_ret
    exact ⟨by first | rfl | (congr 2; omega), rfl⟩
  · rw [show absZ n = n by unfold absZ; rw [if_neg h]]
    go_enter Tryd.func132, Tryd.ntmps132
    go_wp2_with fail
    go_ret
    exact ⟨by first | rfl | (congr 2; omega), rfl⟩
theorem l1Most_any (a b : Int) (w : World) :
    Calls Tryd.prog 89 #[.int .i64 a, .int .i64 b] w fun e w' => e = .returned (.int .i64 (if a < b then b else a)) ∧ w = w' := by
  by_cases h : a < b
  · rw [if_pos h]
    have e1 : decide (a < b) = true := decide_eq_true h
    have e2 : decide (b < a) = false := decide_eq_false (by omega)
    go_enter Tryd.func89, Tryd.ntmps89
    go_wp2_with fail
    go_ret
    exact ⟨rfl, rfl⟩
  · rw [if_neg h]
    by_cases h2 : b < a
    · have e1 : decide (a < b) = false := decide_eq_false h
      have e2 : decide (b < a) = true := decide_eq_true h2
      go_enter Tryd.func89, Tryd.ntmps89
      go_wp2_with fail
      go_ret
      exact ⟨rfl, rfl⟩
    · obtain rfl : a = b := by omega
      have e1 : decide (a < a) = false := decide_eq_false h
      go_enter Tryd.func89, Tryd.ntmps89
      go_wp2_with fail
      go_ret
      exact ⟨rfl, rfl⟩
theorem l9Abs_any (n : Int) (w : World) (h0 : -1000000 ≤ n) (h1 : n ≤ 1000000) :
    Calls Tryd.prog 126 #[.int .i64 n] w fun e w' => e = .returned (.int .i64 (absZ n)) ∧ w = w' := by
  have C := Lib.hid (fun W => l1Most_any n (-n) W)
  have e : absZ n = if n < -n then -n else n := by unfold absZ; split <;> split <;> omega
  rw [e]
  generalize (if n < -n then -n else n) = z at C ⊢
  clear e
  go_enter Tryd.func126, Tryd.ntmps126
  go_wp2_with fail
  refine (C.out _).mono ?_
  rintro e w' ⟨rfl, rfl⟩
  go_wp2_with fail
  go_ret
  exact ⟨rfl, rfl⟩
theorem l9Down_any (x y : Int) (w : World) (h0 : -100 ≤ x) (h1 : x ≤ 100) (h2 : -100 ≤ y) (h3 : y ≤ 100) :
    Calls Tryd.prog 138 #[.int .i64 x, .int .i64 y] w fun e w' => e = .returned (.int .i64 (24 * (2 * x + 1) - 20 * (2 * y + 1))) ∧ w = w' := by
  go_enter Tryd.func138, Tryd.ntmps138
  go_wp2_with fail
  go_ret
  exact ⟨rfl, rfl⟩
set_option maxHeartbeats 1000000 in
theorem spotOf_any (x y : Nat) (w : World) (hx : x < 20) (hy : y < 24) :
    Calls Tryd.prog 131 #[.int .i64 (x : Int), .int .i64 (y : Int)] w fun e w' => e = .returned (.agg #[.int .i64 (x : Int), .int .i64 (y : Int), .int .i64 (fallZ x y), .int .i64 (riseZ x y), .int .i64 (gableZ x y)]) ∧ Below w.heap.size w w' := by
  have C := Lib.hid (fun W => abs_any (2 * (x : Int) + 1 - 20) W (by omega) (by omega))
  obtain ⟨z, hz⟩ : ∃ z, absZ (2 * (x : Int) + 1 - 20) = z := ⟨_, rfl⟩
  have hz0 : 0 ≤ z ∧ z ≤ 100 := by rw [← hz]; unfold absZ; split <;> omega
  unfold fallZ riseZ gableZ
  rw [hz] at C ⊢
  clear hz
  go_enter Tryd.func131, Tryd.ntmps131
  go_wp2_with fail
  refine (C.out _).mono ?_
  rintro e w1 ⟨rfl, rfl⟩
  go_wp2_with fail
  have X := BoxF.new w [.int .i64 (x : Int), .int .i64 (y : Int), .int .i64 (24 * (2 * (x : Int) + 1) - 20 * (2 * (y : Int) + 1)), .int .i64 (24 * (40 - (2 * (x : Int) + 1)) - 20 * (2 * (y : Int) + 1)), .int .i64 (2 * (y : Int) + 1 - z)] 118
  have c0 := X.at 0
  have c1 := X.at 1
  have c2 := X.at 2
  have c3 := X.at 3
  have c4 := X.at 4
  simp only [List.getElem?_cons_zero, List.getElem?_cons_succ] at c0 c1 c2 c3 c4
  exact bodyPost_ret (v := .agg #[.int .i64 (x : Int), .int .i64 (y : Int), .int .i64 (24 * (2 * (x : Int) + 1) - 20 * (2 * (y : Int) + 1)), .int .i64 (24 * (40 - (2 * (x : Int) + 1)) - 20 * (2 * (y : Int) + 1)), .int .i64 (2 * (y : Int) + 1 - z)]) (by simp [results, Tryd.results131, go_sem, c0, c1, c2, c3, c4]) rfl ⟨rfl, (Below.refl _ w).alloc (Nat.le_refl _) _⟩
/-- A number brought between 0 and m. -/
def clampZ (n m : Int) : Int := if n < 0 then 0 else if m < n then m else n
/-- The column or row n, of so many, is of the first part's stripes. -/
def stripeB (n size : Int) : Bool := 6 * clampZ n (size - 1) / size % 2 == 0
/-- The spot is of the first part of a division. -/
def firstS (d sx sy f r : Int) : Bool :=
  if d = 1 then decide (sx < 10) else if d = 2 then decide (sy < 12) else if d = 3 then decide (0 < f)
  else if d = 4 then (decide (sx < 10) == decide (sy < 12)) else if d = 5 then (decide (0 < f) == decide (0 < r))
  else if d = 6 then stripeB sx 20 else if d = 7 then stripeB sy 24 else true
theorem clampZ_in {n m : Int} (h0 : 0 ≤ n) (h1 : n ≤ m) : clampZ n m = n := by unfold clampZ; rw [if_neg (by omega), if_neg (by omega)]
theorem firstB_firstS {d : Int} {x y : Nat} (hx : x < 20) (hy : y < 24) : firstS d x y (fallZ x y) (riseZ x y) = firstB d x y := by
  unfold firstS firstB stripeB
  rw [clampZ_in (by omega) (by omega), clampZ_in (by omega) (by omega)]
set_option maxHeartbeats 1000000 in
theorem l9Part_any (d : Int) (x y : Nat) (w : World) (hx : x < 20) (hy : y < 24) (hd0 : 0 ≤ d) (hd1 : d ≤ 7) :
    Calls Tryd.prog 141 #[.int .i64 d, .int .i64 (x : Int), .int .i64 (y : Int)] w fun e w' => e = .returned (.int .i64 (if firstB d x y then 0 else 1)) ∧ Below w.heap.size w w' := by
  have C1 := Lib.hid (fun W => l9Down_any x y W (by omega) (by omega) (by omega) (by omega))
  have C2 := Lib.hid (fun W => l9Down_any (19 - (x : Int)) y W (by omega) (by omega) (by omega) (by omega))
  have e2 : 24 * (2 * (19 - (x : Int)) + 1) - 20 * (2 * (y : Int) + 1) = riseZ x y := by unfold riseZ; omega
  have e3 : 6 * (y : Int) / 24 = (y : Int) / 4 := by omega
  rw [e2] at C2
  change Hid (∀ W, Calls _ _ _ W fun e w' => e = .returned (.int .i64 (fallZ x y)) ∧ W = w') at C1
  obtain ⟨f, hf⟩ : ∃ f, fallZ x y = f := ⟨_, rfl⟩
  obtain ⟨r, hr⟩ : ∃ r, riseZ x y = r := ⟨_, rfl⟩
  unfold firstB
  rw [hf] at C1 ⊢
  rw [hr] at C2 ⊢
  rw [e3]
  clear hf hr e2 e3
  have hd : d = 0 ∨ d = 1 ∨ d = 2 ∨ d = 3 ∨ d = 4 ∨ d = 5 ∨ d = 6 ∨ d = 7 := by omega
  rcases hd with rfl | rfl | rfl | rfl | rfl | rfl | rfl | rfl
  · clear hd0 hd1
    go_enter Tryd.func141, Tryd.ntmps141
    go_wp2_with fail
    go_ret
    exact ⟨by first | rfl | simp, Below.refl _ _⟩
  · clear hd0 hd1
    obtain ⟨b, hb⟩ : ∃ b, decide ((x : Int) < 10) = b := ⟨_, rfl⟩
    have hif : (if (if (1 : Int) = 1 then decide ((x : Int) < 10) else if (1 : Int) = 2 then decide ((y : Int) < 12) else if (1 : Int) = 3 then decide (0 < f) else if (1 : Int) = 4 then (decide ((x : Int) < 10) == decide ((y : Int) < 12)) else if (1 : Int) = 5 then (decide (0 < f) == decide (0 < r)) else if (1 : Int) = 6 then 6 * (x : Int) / 20 % 2 == 0 else if (1 : Int) = 7 then (y : Int) / 4 % 2 == 0 else true) = true then (0 : Int) else 1) = if b = true then 0 else 1 := by
      rw [← hb]
      simp
    rw [hif]
    clear hif
    cases b
    all_goals
      go_enter Tryd.func141, Tryd.ntmps141
      go_wp2_with fail
      go_ret
      exact ⟨by first | rfl | simp, Below.refl _ _⟩
  · clear hd0 hd1
    obtain ⟨b, hb⟩ : ∃ b, decide ((y : Int) < 12) = b := ⟨_, rfl⟩
    have hif : (if (if (2 : Int) = 1 then decide ((x : Int) < 10) else if (2 : Int) = 2 then decide ((y : Int) < 12) else if (2 : Int) = 3 then decide (0 < f) else if (2 : Int) = 4 then (decide ((x : Int) < 10) == decide ((y : Int) < 12)) else if (2 : Int) = 5 then (decide (0 < f) == decide (0 < r)) else if (2 : Int) = 6 then 6 * (x : Int) / 20 % 2 == 0 else if (2 : Int) = 7 then (y : Int) / 4 % 2 == 0 else true) = true then (0 : Int) else 1) = if b = true then 0 else 1 := by
      rw [← hb]
      simp
    rw [hif]
    clear hif
    cases b
    all_goals
      go_enter Tryd.func141, Tryd.ntmps141
      go_wp2_with fail
      go_ret
      exact ⟨by first | rfl | simp, Below.refl _ _⟩
  · clear hd0 hd1
    obtain ⟨b, hb⟩ : ∃ b, decide (0 < f) = b := ⟨_, rfl⟩
    have hif : (if (if (3 : Int) = 1 then decide ((x : Int) < 10) else if (3 : Int) = 2 then decide ((y : Int) < 12) else if (3 : Int) = 3 then decide (0 < f) else if (3 : Int) = 4 then (decide ((x : Int) < 10) == decide ((y : Int) < 12)) else if (3 : Int) = 5 then (decide (0 < f) == decide (0 < r)) else if (3 : Int) = 6 then 6 * (x : Int) / 20 % 2 == 0 else if (3 : Int) = 7 then (y : Int) / 4 % 2 == 0 else true) = true then (0 : Int) else 1) = if b = true then 0 else 1 := by
      rw [← hb]
      simp
    rw [hif]
    clear hif
    cases b
    all_goals
      go_enter Tryd.func141, Tryd.ntmps141
      go_wp2_with fail
      refine (C1.out _).mono ?_
      rintro e w' ⟨rfl, rfl⟩
      go_wp2_with fail
      go_ret
      exact ⟨by first | rfl | simp, Below.refl _ _⟩
  · clear hd0 hd1
    obtain ⟨b, hb⟩ : ∃ b, (decide ((x : Int) < 10) == decide ((y : Int) < 12)) = b := ⟨_, rfl⟩
    have hif : (if (if (4 : Int) = 1 then decide ((x : Int) < 10) else if (4 : Int) = 2 then decide ((y : Int) < 12) else if (4 : Int) = 3 then decide (0 < f) else if (4 : Int) = 4 then (decide ((x : Int) < 10) == decide ((y : Int) < 12)) else if (4 : Int) = 5 then (decide (0 < f) == decide (0 < r)) else if (4 : Int) = 6 then 6 * (x : Int) / 20 % 2 == 0 else if (4 : Int) = 7 then (y : Int) / 4 % 2 == 0 else true) = true then (0 : Int) else 1) = if b = true then 0 else 1 := by
      rw [← hb]
      simp
    rw [hif]
    clear hif
    cases b
    all_goals
      go_enter Tryd.func141, Tryd.ntmps141
      go_wp2_with fail
      go_ret
      exact ⟨by first | rfl | simp, Below.refl _ _⟩
  · clear hd0 hd1
    obtain ⟨b, hb⟩ : ∃ b, (decide (0 < f) == decide (0 < r)) = b := ⟨_, rfl⟩
    have hif : (if (if (5 : Int) = 1 then decide ((x : Int) < 10) else if (5 : Int) = 2 then decide ((y : Int) < 12) else if (5 : Int) = 3 then decide (0 < f) else if (5 : Int) = 4 then (decide ((x : Int) < 10) == decide ((y : Int) < 12)) else if (5 : Int) = 5 then (decide (0 < f) == decide (0 < r)) else if (5 : Int) = 6 then 6 * (x : Int) / 20 % 2 == 0 else if (5 : Int) = 7 then (y : Int) / 4 % 2 == 0 else true) = true then (0 : Int) else 1) = if b = true then 0 else 1 := by
      rw [← hb]
      simp
    rw [hif]
    clear hif
    cases b
    all_goals
      go_enter Tryd.func141, Tryd.ntmps141
      go_wp2_with fail
      refine (C1.out _).mono ?_
      rintro e w' ⟨rfl, rfl⟩
      go_wp2_with fail
      refine (C2.out _).mono ?_
      rintro e w' ⟨rfl, rfl⟩
      go_wp2_with fail
      go_ret
      exact ⟨by first | rfl | simp, Below.refl _ _⟩
  · clear hd0 hd1
    obtain ⟨b, hb⟩ : ∃ b, (6 * (x : Int) / 20 % 2 == 0) = b := ⟨_, rfl⟩
    have hif : (if (if (6 : Int) = 1 then decide ((x : Int) < 10) else if (6 : Int) = 2 then decide ((y : Int) < 12) else if (6 : Int) = 3 then decide (0 < f) else if (6 : Int) = 4 then (decide ((x : Int) < 10) == decide ((y : Int) < 12)) else if (6 : Int) = 5 then (decide (0 < f) == decide (0 < r)) else if (6 : Int) = 6 then 6 * (x : Int) / 20 % 2 == 0 else if (6 : Int) = 7 then (y : Int) / 4 % 2 == 0 else true) = true then (0 : Int) else 1) = if b = true then 0 else 1 := by
      rw [← hb]
      simp
    rw [hif]
    clear hif
    cases b
    all_goals
      go_enter Tryd.func141, Tryd.ntmps141
      go_wp2_with fail
      go_ret
      exact ⟨by first | rfl | simp, Below.refl _ _⟩
  · clear hd0 hd1
    obtain ⟨b, hb⟩ : ∃ b, ((y : Int) / 4 % 2 == 0) = b := ⟨_, rfl⟩
    have hif : (if (if (7 : Int) = 1 then decide ((x : Int) < 10) else if (7 : Int) = 2 then decide ((y : Int) < 12) else if (7 : Int) = 3 then decide (0 < f) else if (7 : Int) = 4 then (decide ((x : Int) < 10) == decide ((y : Int) < 12)) else if (7 : Int) = 5 then (decide (0 < f) == decide (0 < r)) else if (7 : Int) = 6 then 6 * (x : Int) / 20 % 2 == 0 else if (7 : Int) = 7 then (y : Int) / 4 % 2 == 0 else true) = true then (0 : Int) else 1) = if b = true then 0 else 1 := by
      rw [← hb]
      simp
    rw [hif]
    clear hif
    cases b
    all_goals
      go_enter Tryd.func141, Tryd.ntmps141
      go_wp2_with fail
      go_ret
      exact ⟨by first | rfl | simp, Below.refl _ _⟩
end Go.Proofs.YthapidnjioindaaDoor
namespace Go.Proofs.YthapidnjioindaaDoor
open Go.RowKit

/-- The cell is of the ordinary. -/
def ordB (o : Int) (x y : Nat) : Bool :=
  if o = 1 then (decide (7 ≤ (x : Int)) && decide ((x : Int) < 13)) else if o = 2 then (decide (8 ≤ (y : Int)) && decide ((y : Int) < 16))
  else if o = 3 then decide (absZ (fallZ x y) ≤ 160) else if o = 4 then (decide (11 ≤ gableZ x y) && decide (gableZ x y ≤ 22))
  else if o = 5 then ((decide (8 ≤ (x : Int)) && decide ((x : Int) < 12)) || (decide (10 ≤ (y : Int)) && decide ((y : Int) < 14)))
  else if o = 6 then (decide (absZ (fallZ x y) ≤ 120) || decide (absZ (riseZ x y) ≤ 120)) else if o = 7 then decide ((y : Int) < 8) else false
/-- The spot is of the ordinary. -/
def ordS (o sx sy f r g : Int) : Bool :=
  if o = 1 then (decide (7 ≤ sx) && decide (sx < 13)) else if o = 2 then (decide (8 ≤ sy) && decide (sy < 16))
  else if o = 3 then decide (absZ f ≤ 160) else if o = 4 then (decide (11 ≤ g) && decide (g ≤ 22))
  else if o = 5 then ((decide (8 ≤ sx) && decide (sx < 12)) || (decide (10 ≤ sy) && decide (sy < 14)))
  else if o = 6 then (decide (absZ f ≤ 120) || decide (absZ r ≤ 120)) else if o = 7 then decide (sy < 8) else false
theorem ordB_ordS (o : Int) (x y : Nat) : ordS o x y (fallZ x y) (riseZ x y) (gableZ x y) = ordB o x y := rfl
theorem in_and (a x b : Int) : decide (a ≤ x ∧ x ≤ b) = (decide (a ≤ x) && decide (x < b + 1)) := by
  by_cases h : a ≤ x <;> by_cases h' : x ≤ b
  · rw [decide_eq_true (show a ≤ x ∧ x ≤ b from ⟨h, h'⟩), decide_eq_true h, decide_eq_true (show x < b + 1 by omega)]; rfl
  · rw [decide_eq_false (show ¬(a ≤ x ∧ x ≤ b) from fun q => h' q.2), decide_eq_false (show ¬ x < b + 1 by omega)]; simp
  · rw [decide_eq_false (show ¬(a ≤ x ∧ x ≤ b) from fun q => h q.1), decide_eq_false h]; simp
  · rw [decide_eq_false (show ¬(a ≤ x ∧ x ≤ b) from fun q => h q.1), decide_eq_false h]; simp

set_option maxHeartbeats 4000000 in
theorem ord_any (o sx sy f r g : Int) (w : World) (hf0 : -1000000 ≤ f) (hf1 : f ≤ 1000000) (hr0 : -1000000 ≤ r) (hr1 : r ≤ 1000000) (ho0 : 0 ≤ o) (ho1 : o ≤ 7) :
    Calls Tryd.prog 113 #[.agg #[.int .i64 sx, .int .i64 sy, .int .i64 f, .int .i64 r, .int .i64 g], .int .i64 o] w fun e w' => e = .returned (.bool (ordS o sx sy f r g)) ∧ Below w.heap.size w w' := by
  have C1 := Lib.hid (fun W => abs_any f W hf0 hf1)
  have C2 := Lib.hid (fun W => abs_any r W hr0 hr1)
  unfold ordS
  obtain ⟨af, haf⟩ : ∃ z, absZ f = z := ⟨_, rfl⟩
  obtain ⟨ar, har⟩ : ∃ z, absZ r = z := ⟨_, rfl⟩
  rw [haf] at C1 ⊢
  rw [har] at C2 ⊢
  clear haf har hf0 hf1 hr0 hr1
  have ho : o = 0 ∨ o = 1 ∨ o = 2 ∨ o = 3 ∨ o = 4 ∨ o = 5 ∨ o = 6 ∨ o = 7 := by omega
  rcases ho with rfl | rfl | rfl | rfl | rfl | rfl | rfl | rfl
  · clear ho0 ho1
    go_enter Tryd.func113, Tryd.ntmps113
    go_wp2_with fail
    go_ret
    exact ⟨by first | rfl | simp, (Below.refl _ w).alloc (Nat.le_refl _) _⟩
  · clear ho0 ho1
    obtain ⟨b0, e0⟩ : ∃ b, decide (7 ≤ sx) = b := ⟨_, rfl⟩
    obtain ⟨b1, e1⟩ : ∃ b, decide (sx < 13) = b := ⟨_, rfl⟩
    rw [show (if (1 : Int) = 1 then (decide (7 ≤ sx) && decide (sx < 13)) else if (1 : Int) = 2 then (decide (8 ≤ sy) && decide (sy < 16)) else if (1 : Int) = 3 then decide (af ≤ 160) else if (1 : Int) = 4 then (decide (11 ≤ g) && decide (g ≤ 22)) else if (1 : Int) = 5 then ((decide (8 ≤ sx) && decide (sx < 12)) || (decide (10 ≤ sy) && decide (sy < 14))) else if (1 : Int) = 6 then (decide (af ≤ 120) || decide (ar ≤ 120)) else if (1 : Int) = 7 then decide (sy < 8) else false) = (b0 && b1) by rw [← e0, ← e1]; simp]
    cases b0
    all_goals cases b1
    all_goals
      go_enter Tryd.func113, Tryd.ntmps113
      go_wp2_with fail
      go_ret
      exact ⟨by first | rfl | simp, (Below.refl _ w).alloc (Nat.le_refl _) _⟩
  · clear ho0 ho1
    obtain ⟨b0, e0⟩ : ∃ b, decide (8 ≤ sy) = b := ⟨_, rfl⟩
    obtain ⟨b1, e1⟩ : ∃ b, decide (sy < 16) = b := ⟨_, rfl⟩
    rw [show (if (2 : Int) = 1 then (decide (7 ≤ sx) && decide (sx < 13)) else if (2 : Int) = 2 then (decide (8 ≤ sy) && decide (sy < 16)) else if (2 : Int) = 3 then decide (af ≤ 160) else if (2 : Int) = 4 then (decide (11 ≤ g) && decide (g ≤ 22)) else if (2 : Int) = 5 then ((decide (8 ≤ sx) && decide (sx < 12)) || (decide (10 ≤ sy) && decide (sy < 14))) else if (2 : Int) = 6 then (decide (af ≤ 120) || decide (ar ≤ 120)) else if (2 : Int) = 7 then decide (sy < 8) else false) = (b0 && b1) by rw [← e0, ← e1]; simp]
    cases b0
    all_goals cases b1
    all_goals
      go_enter Tryd.func113, Tryd.ntmps113
      go_wp2_with fail
      go_ret
      exact ⟨by first | rfl | simp, (Below.refl _ w).alloc (Nat.le_refl _) _⟩
  · clear ho0 ho1
    obtain ⟨b0, e0⟩ : ∃ b, decide (af ≤ 160) = b := ⟨_, rfl⟩
    rw [show (if (3 : Int) = 1 then (decide (7 ≤ sx) && decide (sx < 13)) else if (3 : Int) = 2 then (decide (8 ≤ sy) && decide (sy < 16)) else if (3 : Int) = 3 then decide (af ≤ 160) else if (3 : Int) = 4 then (decide (11 ≤ g) && decide (g ≤ 22)) else if (3 : Int) = 5 then ((decide (8 ≤ sx) && decide (sx < 12)) || (decide (10 ≤ sy) && decide (sy < 14))) else if (3 : Int) = 6 then (decide (af ≤ 120) || decide (ar ≤ 120)) else if (3 : Int) = 7 then decide (sy < 8) else false) = b0 by rw [← e0]; simp]
    cases b0
    all_goals
      go_enter Tryd.func113, Tryd.ntmps113
      go_wp2_with fail
      refine (C1.out _).mono ?_
      rintro e w2 ⟨rfl, rfl⟩
      go_wp2_with fail
      go_ret
      exact ⟨by first | rfl | simp, (Below.refl _ w).alloc (Nat.le_refl _) _⟩
  · clear ho0 ho1
    obtain ⟨b0, e0⟩ : ∃ b, decide (11 ≤ g) = b := ⟨_, rfl⟩
    obtain ⟨b1, e1⟩ : ∃ b, decide (g ≤ 22) = b := ⟨_, rfl⟩
    rw [show (if (4 : Int) = 1 then (decide (7 ≤ sx) && decide (sx < 13)) else if (4 : Int) = 2 then (decide (8 ≤ sy) && decide (sy < 16)) else if (4 : Int) = 3 then decide (af ≤ 160) else if (4 : Int) = 4 then (decide (11 ≤ g) && decide (g ≤ 22)) else if (4 : Int) = 5 then ((decide (8 ≤ sx) && decide (sx < 12)) || (decide (10 ≤ sy) && decide (sy < 14))) else if (4 : Int) = 6 then (decide (af ≤ 120) || decide (ar ≤ 120)) else if (4 : Int) = 7 then decide (sy < 8) else false) = (b0 && b1) by rw [← e0, ← e1]; simp]
    cases b0
    all_goals cases b1
    all_goals
      go_enter Tryd.func113, Tryd.ntmps113
      go_wp2_with fail
      go_ret
      exact ⟨by first | rfl | simp, (Below.refl _ w).alloc (Nat.le_refl _) _⟩
  · clear ho0 ho1
    obtain ⟨b0, e0⟩ : ∃ b, decide (8 ≤ sx) = b := ⟨_, rfl⟩
    obtain ⟨b1, e1⟩ : ∃ b, decide (sx < 12) = b := ⟨_, rfl⟩
    obtain ⟨b2, e2⟩ : ∃ b, decide (10 ≤ sy) = b := ⟨_, rfl⟩
    obtain ⟨b3, e3⟩ : ∃ b, decide (sy < 14) = b := ⟨_, rfl⟩
    rw [show (if (5 : Int) = 1 then (decide (7 ≤ sx) && decide (sx < 13)) else if (5 : Int) = 2 then (decide (8 ≤ sy) && decide (sy < 16)) else if (5 : Int) = 3 then decide (af ≤ 160) else if (5 : Int) = 4 then (decide (11 ≤ g) && decide (g ≤ 22)) else if (5 : Int) = 5 then ((decide (8 ≤ sx) && decide (sx < 12)) || (decide (10 ≤ sy) && decide (sy < 14))) else if (5 : Int) = 6 then (decide (af ≤ 120) || decide (ar ≤ 120)) else if (5 : Int) = 7 then decide (sy < 8) else false) = ((b0 && b1) || (b2 && b3)) by rw [← e0, ← e1, ← e2, ← e3]; simp]
    cases b0
    all_goals cases b1
    all_goals cases b2
    all_goals cases b3
    all_goals
      go_enter Tryd.func113, Tryd.ntmps113
      go_wp2_with fail
      go_ret
      exact ⟨by first | rfl | simp, (Below.refl _ w).alloc (Nat.le_refl _) _⟩
  · clear ho0 ho1
    obtain ⟨b0, e0⟩ : ∃ b, decide (af ≤ 120) = b := ⟨_, rfl⟩
    obtain ⟨b1, e1⟩ : ∃ b, decide (ar ≤ 120) = b := ⟨_, rfl⟩
    rw [show (if (6 : Int) = 1 then (decide (7 ≤ sx) && decide (sx < 13)) else if (6 : Int) = 2 then (decide (8 ≤ sy) && decide (sy < 16)) else if (6 : Int) = 3 then decide (af ≤ 160) else if (6 : Int) = 4 then (decide (11 ≤ g) && decide (g ≤ 22)) else if (6 : Int) = 5 then ((decide (8 ≤ sx) && decide (sx < 12)) || (decide (10 ≤ sy) && decide (sy < 14))) else if (6 : Int) = 6 then (decide (af ≤ 120) || decide (ar ≤ 120)) else if (6 : Int) = 7 then decide (sy < 8) else false) = (b0 || b1) by rw [← e0, ← e1]; simp]
    cases b0
    all_goals cases b1
    all_goals
      go_enter Tryd.func113, Tryd.ntmps113
      go_wp2_with fail
      refine (C1.out _).mono ?_
      rintro e w2 ⟨rfl, rfl⟩
      go_wp2_with fail
      try (
        refine (C2.out _).mono ?_
        rintro e w2 ⟨rfl, rfl⟩
        go_wp2_with fail)
      go_ret
      exact ⟨by first | rfl | simp, (Below.refl _ w).alloc (Nat.le_refl _) _⟩
  · clear ho0 ho1
    obtain ⟨b0, e0⟩ : ∃ b, decide (sy < 8) = b := ⟨_, rfl⟩
    rw [show (if (7 : Int) = 1 then (decide (7 ≤ sx) && decide (sx < 13)) else if (7 : Int) = 2 then (decide (8 ≤ sy) && decide (sy < 16)) else if (7 : Int) = 3 then decide (af ≤ 160) else if (7 : Int) = 4 then (decide (11 ≤ g) && decide (g ≤ 22)) else if (7 : Int) = 5 then ((decide (8 ≤ sx) && decide (sx < 12)) || (decide (10 ≤ sy) && decide (sy < 14))) else if (7 : Int) = 6 then (decide (af ≤ 120) || decide (ar ≤ 120)) else if (7 : Int) = 7 then decide (sy < 8) else false) = b0 by rw [← e0]; simp]
    cases b0
    all_goals
      go_enter Tryd.func113, Tryd.ntmps113
      go_wp2_with fail
      go_ret
      exact ⟨by first | rfl | simp, (Below.refl _ w).alloc (Nat.le_refl _) _⟩
theorem ord_impl (o : Int) (x y : Nat) (w : World) (hx : x < 20) (hy : y < 24) (ho0 : 0 ≤ o) (ho1 : o ≤ 7) :
    Calls Tryd.prog 113 #[.agg #[.int .i64 (x : Int), .int .i64 (y : Int), .int .i64 (fallZ x y), .int .i64 (riseZ x y), .int .i64 (gableZ x y)], .int .i64 o] w fun e w' => e = .returned (.bool (ordB o x y)) ∧ Below w.heap.size w w' := by
  rw [← ordB_ordS]
  exact ord_any o x y _ _ _ w (by unfold fallZ; omega) (by unfold fallZ; omega) (by unfold riseZ; omega) (by unfold riseZ; omega) ho0 ho1

set_option maxHeartbeats 4000000 in
theorem l9Ord_int (o sx sy : Int) (w : World) (hx0 : -40 ≤ sx) (hx1 : sx ≤ 40) (hy0 : -40 ≤ sy) (hy1 : sy ≤ 40) (ho0 : 0 ≤ o) (ho1 : o ≤ 7) :
    Calls Tryd.prog 125 #[.int .i64 o, .int .i64 sx, .int .i64 sy] w fun e w' => e = .returned (.bool (ordS o sx sy (24 * (2 * sx + 1) - 20 * (2 * sy + 1)) (24 * (2 * (19 - sx) + 1) - 20 * (2 * sy + 1)) (2 * sy + 1 - absZ (2 * sx - 19)))) ∧ w = w' := by
  have D1 := Lib.hid (fun W => l9Down_any sx sy W (by omega) (by omega) (by omega) (by omega))
  have D2 := Lib.hid (fun W => l9Down_any (19 - sx) sy W (by omega) (by omega) (by omega) (by omega))
  have C1 := Lib.hid (fun W => l9Abs_any (24 * (2 * sx + 1) - 20 * (2 * sy + 1)) W (by omega) (by omega))
  have C2 := Lib.hid (fun W => l9Abs_any (24 * (2 * (19 - sx) + 1) - 20 * (2 * sy + 1)) W (by omega) (by omega))
  have C3 := Lib.hid (fun W => l9Abs_any (2 * sx - 19) W (by omega) (by omega))
  have hz : 0 ≤ absZ (2 * sx - 19) ∧ absZ (2 * sx - 19) ≤ 1000 := by unfold absZ; split <;> omega
  unfold ordS
  obtain ⟨z, hzz⟩ : ∃ z, absZ (2 * sx - 19) = z := ⟨_, rfl⟩
  rw [hzz] at C3 hz ⊢
  obtain ⟨f, hf⟩ : ∃ f, 24 * (2 * sx + 1) - 20 * (2 * sy + 1) = f := ⟨_, rfl⟩
  obtain ⟨r, hr⟩ : ∃ r, 24 * (2 * (19 - sx) + 1) - 20 * (2 * sy + 1) = r := ⟨_, rfl⟩
  rw [hf] at C1 D1 ⊢
  rw [hr] at C2 D2 ⊢
  obtain ⟨af, haf⟩ : ∃ z, absZ f = z := ⟨_, rfl⟩
  obtain ⟨ar, har⟩ : ∃ z, absZ r = z := ⟨_, rfl⟩
  rw [haf] at C1 ⊢
  rw [har] at C2 ⊢
  clear haf har hzz hf hr
  have ho : o = 0 ∨ o = 1 ∨ o = 2 ∨ o = 3 ∨ o = 4 ∨ o = 5 ∨ o = 6 ∨ o = 7 := by omega
  rcases ho with rfl | rfl | rfl | rfl | rfl | rfl | rfl | rfl
  · clear ho0 ho1
    go_enter Tryd.func125, Tryd.ntmps125
    go_wp2_with fail
    go_ret
    exact ⟨by first | rfl | simp, rfl⟩
  · clear ho0 ho1
    obtain ⟨b0, e0⟩ : ∃ b, decide (7 ≤ sx ∧ sx ≤ 12) = b := ⟨_, rfl⟩
    have I0 := Lib.hid (fun W => in_any sx 7 12 W b0 e0)
    have q0 := e0
    rw [in_and] at q0
    rw [show (if (1 : Int) = 1 then (decide (7 ≤ sx) && decide (sx < 13)) else if (1 : Int) = 2 then (decide (8 ≤ sy) && decide (sy < 16)) else if (1 : Int) = 3 then decide (af ≤ 160) else if (1 : Int) = 4 then (decide (11 ≤ 2 * sy + 1 - z) && decide (2 * sy + 1 - z ≤ 22)) else if (1 : Int) = 5 then ((decide (8 ≤ sx) && decide (sx < 12)) || (decide (10 ≤ sy) && decide (sy < 14))) else if (1 : Int) = 6 then (decide (af ≤ 120) || decide (ar ≤ 120)) else if (1 : Int) = 7 then decide (sy < 8) else false) = b0 by rw [← q0]; simp]
    clear e0 q0
    cases b0
    all_goals
      go_enter Tryd.func125, Tryd.ntmps125
      go_wp2_with fail
      refine (I0.out _).mono ?_
      rintro e w2 ⟨rfl, rfl⟩
      go_wp2_with fail
      go_ret
      exact ⟨by first | rfl | simp, rfl⟩
  · clear ho0 ho1
    obtain ⟨b0, e0⟩ : ∃ b, decide (8 ≤ sy ∧ sy ≤ 15) = b := ⟨_, rfl⟩
    have I0 := Lib.hid (fun W => in_any sy 8 15 W b0 e0)
    have q0 := e0
    rw [in_and] at q0
    rw [show (if (2 : Int) = 1 then (decide (7 ≤ sx) && decide (sx < 13)) else if (2 : Int) = 2 then (decide (8 ≤ sy) && decide (sy < 16)) else if (2 : Int) = 3 then decide (af ≤ 160) else if (2 : Int) = 4 then (decide (11 ≤ 2 * sy + 1 - z) && decide (2 * sy + 1 - z ≤ 22)) else if (2 : Int) = 5 then ((decide (8 ≤ sx) && decide (sx < 12)) || (decide (10 ≤ sy) && decide (sy < 14))) else if (2 : Int) = 6 then (decide (af ≤ 120) || decide (ar ≤ 120)) else if (2 : Int) = 7 then decide (sy < 8) else false) = b0 by rw [← q0]; simp]
    clear e0 q0
    cases b0
    all_goals
      go_enter Tryd.func125, Tryd.ntmps125
      go_wp2_with fail
      refine (I0.out _).mono ?_
      rintro e w2 ⟨rfl, rfl⟩
      go_wp2_with fail
      go_ret
      exact ⟨by first | rfl | simp, rfl⟩
  · clear ho0 ho1
    obtain ⟨b0, e0⟩ : ∃ b, decide (af ≤ 160) = b := ⟨_, rfl⟩
    rw [show (if (3 : Int) = 1 then (decide (7 ≤ sx) && decide (sx < 13)) else if (3 : Int) = 2 then (decide (8 ≤ sy) && decide (sy < 16)) else if (3 : Int) = 3 then decide (af ≤ 160) else if (3 : Int) = 4 then (decide (11 ≤ 2 * sy + 1 - z) && decide (2 * sy + 1 - z ≤ 22)) else if (3 : Int) = 5 then ((decide (8 ≤ sx) && decide (sx < 12)) || (decide (10 ≤ sy) && decide (sy < 14))) else if (3 : Int) = 6 then (decide (af ≤ 120) || decide (ar ≤ 120)) else if (3 : Int) = 7 then decide (sy < 8) else false) = b0 by rw [← e0]; simp]
    cases b0
    all_goals
      go_enter Tryd.func125, Tryd.ntmps125
      go_wp2_with fail
      refine (D1.out _).mono ?_
      rintro e w2 ⟨rfl, rfl⟩
      go_wp2_with fail
      refine (C1.out _).mono ?_
      rintro e w2 ⟨rfl, rfl⟩
      go_wp2_with fail
      go_ret
      exact ⟨by first | rfl | simp, rfl⟩
  · clear ho0 ho1
    obtain ⟨b0, e0⟩ : ∃ b, decide (11 ≤ (2 * sy + 1 - z) ∧ (2 * sy + 1 - z) ≤ 22) = b := ⟨_, rfl⟩
    have I0 := Lib.hid (fun W => in_any (2 * sy + 1 - z) 11 22 W b0 e0)
    have q0 := e0
    rw [Bool.decide_and] at q0
    rw [show (if (4 : Int) = 1 then (decide (7 ≤ sx) && decide (sx < 13)) else if (4 : Int) = 2 then (decide (8 ≤ sy) && decide (sy < 16)) else if (4 : Int) = 3 then decide (af ≤ 160) else if (4 : Int) = 4 then (decide (11 ≤ 2 * sy + 1 - z) && decide (2 * sy + 1 - z ≤ 22)) else if (4 : Int) = 5 then ((decide (8 ≤ sx) && decide (sx < 12)) || (decide (10 ≤ sy) && decide (sy < 14))) else if (4 : Int) = 6 then (decide (af ≤ 120) || decide (ar ≤ 120)) else if (4 : Int) = 7 then decide (sy < 8) else false) = b0 by rw [← q0]; simp]
    clear e0 q0
    cases b0
    all_goals
      go_enter Tryd.func125, Tryd.ntmps125
      go_wp2_with fail
      refine (C3.out _).mono ?_
      rintro e w2 ⟨rfl, rfl⟩
      go_wp2_with fail
      refine (I0.out _).mono ?_
      rintro e w2 ⟨rfl, rfl⟩
      go_wp2_with fail
      go_ret
      exact ⟨by first | rfl | simp, rfl⟩
  · clear ho0 ho1
    obtain ⟨b0, e0⟩ : ∃ b, decide (8 ≤ sx ∧ sx ≤ 11) = b := ⟨_, rfl⟩
    have I0 := Lib.hid (fun W => in_any sx 8 11 W b0 e0)
    have q0 := e0
    rw [in_and] at q0
    obtain ⟨b1, e1⟩ : ∃ b, decide (10 ≤ sy ∧ sy ≤ 13) = b := ⟨_, rfl⟩
    have I1 := Lib.hid (fun W => in_any sy 10 13 W b1 e1)
    have q1 := e1
    rw [in_and] at q1
    rw [show (if (5 : Int) = 1 then (decide (7 ≤ sx) && decide (sx < 13)) else if (5 : Int) = 2 then (decide (8 ≤ sy) && decide (sy < 16)) else if (5 : Int) = 3 then decide (af ≤ 160) else if (5 : Int) = 4 then (decide (11 ≤ 2 * sy + 1 - z) && decide (2 * sy + 1 - z ≤ 22)) else if (5 : Int) = 5 then ((decide (8 ≤ sx) && decide (sx < 12)) || (decide (10 ≤ sy) && decide (sy < 14))) else if (5 : Int) = 6 then (decide (af ≤ 120) || decide (ar ≤ 120)) else if (5 : Int) = 7 then decide (sy < 8) else false) = (b0 || b1) by rw [← q0, ← q1]; simp]
    clear e0 q0 e1 q1
    cases b0
    all_goals cases b1
    all_goals
      go_enter Tryd.func125, Tryd.ntmps125
      go_wp2_with fail
      refine (I0.out _).mono ?_
      rintro e w2 ⟨rfl, rfl⟩
      go_wp2_with fail
      try (
        refine (I1.out _).mono ?_
        rintro e w2 ⟨rfl, rfl⟩
        go_wp2_with fail)
      go_ret
      exact ⟨by first | rfl | simp, rfl⟩
  · clear ho0 ho1
    obtain ⟨b0, e0⟩ : ∃ b, decide (af ≤ 120) = b := ⟨_, rfl⟩
    obtain ⟨b1, e1⟩ : ∃ b, decide (ar ≤ 120) = b := ⟨_, rfl⟩
    rw [show (if (6 : Int) = 1 then (decide (7 ≤ sx) && decide (sx < 13)) else if (6 : Int) = 2 then (decide (8 ≤ sy) && decide (sy < 16)) else if (6 : Int) = 3 then decide (af ≤ 160) else if (6 : Int) = 4 then (decide (11 ≤ 2 * sy + 1 - z) && decide (2 * sy + 1 - z ≤ 22)) else if (6 : Int) = 5 then ((decide (8 ≤ sx) && decide (sx < 12)) || (decide (10 ≤ sy) && decide (sy < 14))) else if (6 : Int) = 6 then (decide (af ≤ 120) || decide (ar ≤ 120)) else if (6 : Int) = 7 then decide (sy < 8) else false) = (b0 || b1) by rw [← e0, ← e1]; simp]
    cases b0
    all_goals cases b1
    all_goals
      go_enter Tryd.func125, Tryd.ntmps125
      go_wp2_with fail
      refine (D1.out _).mono ?_
      rintro e w2 ⟨rfl, rfl⟩
      go_wp2_with fail
      refine (C1.out _).mono ?_
      rintro e w2 ⟨rfl, rfl⟩
      go_wp2_with fail
      try (
        refine (D2.out _).mono ?_
        rintro e w2 ⟨rfl, rfl⟩
        go_wp2_with fail
        refine (C2.out _).mono ?_
        rintro e w2 ⟨rfl, rfl⟩
        go_wp2_with fail)
      go_ret
      exact ⟨by first | rfl | simp, rfl⟩
  · clear ho0 ho1
    obtain ⟨b0, e0⟩ : ∃ b, decide (sy < 8) = b := ⟨_, rfl⟩
    rw [show (if (7 : Int) = 1 then (decide (7 ≤ sx) && decide (sx < 13)) else if (7 : Int) = 2 then (decide (8 ≤ sy) && decide (sy < 16)) else if (7 : Int) = 3 then decide (af ≤ 160) else if (7 : Int) = 4 then (decide (11 ≤ 2 * sy + 1 - z) && decide (2 * sy + 1 - z ≤ 22)) else if (7 : Int) = 5 then ((decide (8 ≤ sx) && decide (sx < 12)) || (decide (10 ≤ sy) && decide (sy < 14))) else if (7 : Int) = 6 then (decide (af ≤ 120) || decide (ar ≤ 120)) else if (7 : Int) = 7 then decide (sy < 8) else false) = b0 by rw [← e0]; simp]
    cases b0
    all_goals
      go_enter Tryd.func125, Tryd.ntmps125
      go_wp2_with fail
      go_ret
      exact ⟨by first | rfl | simp, rfl⟩
theorem l9Ord_any (o : Int) (x y : Nat) (w : World) (hx : x < 20) (hy : y < 24) (ho0 : 0 ≤ o) (ho1 : o ≤ 7) :
    Calls Tryd.prog 125 #[.int .i64 o, .int .i64 (x : Int), .int .i64 (y : Int)] w fun e w' => e = .returned (.bool (ordB o x y)) ∧ w = w' := by
  have h := l9Ord_int o x y w (by omega) (by omega) (by omega) (by omega) ho0 ho1
  have e2 : 24 * (2 * (19 - (x : Int)) + 1) - 20 * (2 * (y : Int) + 1) = riseZ x y := by unfold riseZ; omega
  have e3 : 2 * (y : Int) + 1 - absZ (2 * (x : Int) - 19) = gableZ x y := by unfold gableZ; congr 2; omega
  rw [e2, e3] at h
  exact h
end Go.Proofs.YthapidnjioindaaDoor
