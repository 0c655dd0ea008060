/- Plain facts on lists of tinctures: bases, those against one, good lists, counts, first occurrences. -/
import Derived.Test.YtkhpgggaaldhhaaDoorTin
namespace Go.Proofs.YtkhpgggaaldhhaaDoor

def tinGood (x : Int) : Bool := decide (1 ≤ x ∧ x ≤ 9)
theorem tinGood_yes {x : Int} (h0 : 1 ≤ x) (h1 : x ≤ 9) : tinGood x = true := by simp [tinGood]; omega
theorem tinGood_no {x : Int} (h : x < 1 ∨ 9 < x) : tinGood x = false := by simp [tinGood]; omega
theorem tinGood_out {x : Int} (h : tinGood x = true) : 1 ≤ x ∧ x ≤ 9 := by simpa [tinGood] using h
theorem tinGood_out' {x : Int} (h : tinGood x = false) : x < 1 ∨ 9 < x := by
  have h1 : ¬ (1 ≤ x ∧ x ≤ 9) := by
    unfold tinGood at h
    exact of_decide_eq_false h
  omega
def goodL (X : List Int) : Bool := decide (X.length ≤ 40) && X.all tinGood
theorem goodL_len {X : List Int} (h : goodL X = true) : X.length ≤ 40 := by simp [goodL] at h; exact h.1
theorem goodL_all {X : List Int} (h : goodL X = true) : ∀ x ∈ X, 1 ≤ x ∧ x ≤ 9 := by
  simp only [goodL, Bool.and_eq_true, List.all_eq_true] at h
  exact fun x hx => tinGood_out (h.2 x hx)
theorem goodL_big {X : List Int} (h : 40 < X.length) : goodL X = false := by simp [goodL]; omega
theorem goodL_bad {X : List Int} {k : Nat} {x : Int} (hx : X[k]? = some x) (h : x < 1 ∨ 9 < x) : goodL X = false := by
  cases hg : goodL X
  · rfl
  · have := goodL_all hg x (List.mem_of_getElem? hx)
    omega
theorem goodL_yes {X : List Int} (hl : X.length ≤ 40) (h : X.take X.length |>.all tinGood) : goodL X = true := by
  rw [List.take_length] at h
  simp [goodL, hl, h]
theorem all_take_succ {X : List Int} {k : Nat} {x : Int} (hx : X[k]? = some x) (h : (X.take k).all tinGood = true) (hg : tinGood x = true) : (X.take (k + 1)).all tinGood = true := by
  rw [List.take_add_one, hx]; simp only [List.all_append, h, Bool.true_and]; simp [hg]
theorem take_succ' {X : List Int} {k : Nat} {x : Int} (hx : X[k]? = some x) : X.take (k + 1) = X.take k ++ [x] := by rw [List.take_add_one, hx]; rfl

/-- The base tinctures. -/
def baseL (x : Int) : List Int := if x = 8 then [2, 5] else if x = 9 then [2, 4] else [x]
/-- Of the first k tinctures those that do not clash with x. -/
def agL (x : Int) (k : Nat) : List Int := ((List.range k).map fun i : Nat => ((i : Int) + 1)).filter fun y => !clashB x y
theorem agL_len (x : Int) (k : Nat) : (agL x k).length ≤ k := by
  unfold agL; exact Nat.le_trans (List.length_filter_le _ _) (by simp)
theorem agL_in {x : Int} {k : Nat} (h : clashB x ((k : Int) + 1) = false) : agL x (k + 1) = agL x k ++ [(k : Int) + 1] := by
  unfold agL; rw [List.range_succ, List.map_append, List.filter_append]; simp [h]
theorem agL_out {x : Int} {k : Nat} (h : clashB x ((k : Int) + 1) = true) : agL x (k + 1) = agL x k := by
  unfold agL; rw [List.range_succ, List.map_append, List.filter_append]; simp [h]

/-- How often each of the tinctures 1 to 9 occurs. -/
def cntL (X : List Int) : List Int := (List.range 9).map fun i : Nat => ((X.count ((i : Int) + 1) : Nat) : Int)
theorem cntL_len (X : List Int) : (cntL X).length = 9 := by simp [cntL]
theorem cntL_nil : cntL [] = List.replicate 9 0 := by decide
theorem cntL_at (X : List Int) {j : Nat} (hj : j < 9) : (cntL X)[j]? = some ((X.count ((j : Int) + 1) : Nat) : Int) := by simp [cntL, hj]
theorem cntL_snoc (X : List Int) {j : Nat} (_hj : j < 9) : (cntL X).set j ((X.count ((j : Int) + 1) : Nat) + 1 : Int) = cntL (X ++ [(j : Int) + 1]) := by
  apply List.ext_getElem?
  intro i
  rw [List.getElem?_set]
  by_cases hi : i < 9
  · rw [cntL_at _ hi, cntL_at _ hi, cntL_len]
    by_cases e : j = i
    · subst e
      simp [hi, List.count_append]
    · have h1 : ¬ ((j : Int) = (i : Int)) := by omega
      simp [e, h1, List.count_append]
  · have h1 : (cntL X)[i]? = none := List.getElem?_eq_none (by rw [cntL_len]; omega)
    have h2 : (cntL (X ++ [(j : Int) + 1]))[i]? = none := List.getElem?_eq_none (by rw [cntL_len]; omega)
    rw [h1, h2]
    split
    · omega
    · rfl

/-- The different ones in the order of their first occurrences. -/
def firstL (X : List Int) : List Int := X.foldl (fun acc x => if acc.contains x then acc else acc ++ [x]) []
theorem firstL_snoc (X : List Int) (x : Int) : firstL (X ++ [x]) = if (firstL X).contains x then firstL X else firstL X ++ [x] := by
  unfold firstL; rw [List.foldl_append]; rfl
theorem firstL_old {X : List Int} {x : Int} (h : (firstL X).contains x = true) : firstL (X ++ [x]) = firstL X := by rw [firstL_snoc, h]; rfl
theorem firstL_new {X : List Int} {x : Int} (h : (firstL X).contains x = false) : firstL (X ++ [x]) = firstL X ++ [x] := by rw [firstL_snoc, h]; rfl
theorem firstL_len (X : List Int) : (firstL X).length ≤ X.length := by
  unfold firstL
  suffices h : ∀ (l acc : List Int), (l.foldl (fun acc x => if acc.contains x then acc else acc ++ [x]) acc).length ≤ acc.length + l.length by simpa using h X []
  intro l
  induction l with
  | nil => intro acc; simp
  | cons a l ih =>
    intro acc
    simp only [List.foldl_cons, List.length_cons]
    refine Nat.le_trans (ih _) ?_
    split
    · omega
    · simp; omega
end Go.Proofs.YtkhpgggaaldhhaaDoor
