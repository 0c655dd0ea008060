/- Plain facts: the counts of a list add up to its length, and as many are not 0 as there are different numbers. -/
import Derived.Test.YtflfdngcgebmmaaTMath
namespace Go.Proofs.Ytflfdngcgebmmaa

def psum (X : List Int) : Nat → Nat
  | 0 => 0
  | i + 1 => psum X i + X.count ((i : Int) + 1)
def pdif (X : List Int) : Nat → Nat
  | 0 => 0
  | i + 1 => pdif X i + (if 0 < X.count ((i : Int) + 1) then 1 else 0)
theorem psum_le (X : List Int) {n : Nat} (hn : X.length ≤ n) (i : Nat) : psum X i ≤ n * i := by
  induction i with
  | zero => simp [psum]
  | succ i ih =>
    have h1 := List.count_le_length (a := (i : Int) + 1) (l := X)
    rw [psum, Nat.mul_add, Nat.mul_one]
    omega
theorem pdif_le (X : List Int) (i : Nat) : pdif X i ≤ i := by
  induction i with
  | zero => simp [pdif]
  | succ i ih => rw [pdif]; split <;> omega
theorem count_one_same (x : Int) : [x].count x = 1 := by simp
theorem count_one_other {x y : Int} (h : x ≠ y) : [x].count y = 0 := by simp [h]
theorem psum_snoc (X : List Int) (x : Int) (i : Nat) : psum (X ++ [x]) i = psum X i + (if 1 ≤ x ∧ x ≤ i then 1 else 0) := by
  induction i with
  | zero => rw [if_neg (by omega)]; rfl
  | succ i ih =>
    rw [psum, psum, ih, List.count_append]
    by_cases e : x = (i : Int) + 1
    · subst e
      rw [count_one_same, if_neg (by omega), if_pos (by omega)]
      omega
    · rw [count_one_other e]
      by_cases h : 1 ≤ x ∧ x ≤ (i : Int)
      · rw [if_pos h, if_pos (by omega)]; omega
      · rw [if_neg h, if_neg (by omega)]; omega
theorem pdif_snoc_new (X : List Int) (x : Int) (hx : X.count x = 0) (i : Nat) : pdif (X ++ [x]) i = pdif X i + (if 1 ≤ x ∧ x ≤ i then 1 else 0) := by
  induction i with
  | zero => rw [if_neg (by omega)]; rfl
  | succ i ih =>
    rw [pdif, pdif, ih, List.count_append]
    by_cases e : x = (i : Int) + 1
    · subst e
      rw [count_one_same, hx, if_neg (by omega), if_pos (by omega), if_neg (by omega), if_pos (by omega)]
    · rw [count_one_other e, Nat.add_zero]
      by_cases h : 1 ≤ x ∧ x ≤ (i : Int)
      · rw [if_pos h, if_pos (show 1 ≤ x ∧ x ≤ ((i + 1 : Nat) : Int) by omega)]; omega
      · rw [if_neg h, if_neg (show ¬ (1 ≤ x ∧ x ≤ ((i + 1 : Nat) : Int)) by omega)]; omega
theorem pdif_snoc_old (X : List Int) (x : Int) (hx : 0 < X.count x) (i : Nat) : pdif (X ++ [x]) i = pdif X i := by
  induction i with
  | zero => rfl
  | succ i ih =>
    rw [pdif, pdif, ih, List.count_append]
    by_cases e : x = (i : Int) + 1
    · subst e
      rw [count_one_same, if_pos (by omega), if_pos hx]
    · rw [count_one_other e, Nat.add_zero]
theorem psum_nil (i : Nat) : psum [] i = 0 := by
  induction i with
  | zero => rfl
  | succ i ih => rw [psum, ih]; rfl
theorem pdif_nil (i : Nat) : pdif [] i = 0 := by
  induction i with
  | zero => rfl
  | succ i ih => rw [pdif, ih]; rfl
theorem psum_all {X : List Int} (h : ∀ x ∈ X, 1 ≤ x ∧ x ≤ 9) : psum X 9 = X.length := by
  have H : ∀ k, k ≤ X.length → psum (X.take k) 9 = k := by
    intro k
    induction k with
    | zero => intro _; rw [List.take_zero, psum_nil]
    | succ k ih =>
      intro hk
      have hx : X[k]? = some X[k] := List.getElem?_eq_getElem (by omega)
      have h1 := h X[k] (List.getElem_mem _)
      rw [take_succ' hx, psum_snoc, ih (by omega), if_pos (by omega)]
  have := H X.length (Nat.le_refl _)
  rwa [List.take_length] at this
theorem contains_snoc (T : List Int) (y x : Int) : (T ++ [y]).contains x = (T.contains x || decide (x = y)) := by simp
theorem mem_first (X : List Int) (x : Int) : (firstL X).contains x = X.contains x := by
  have H : ∀ k, k ≤ X.length → (firstL (X.take k)).contains x = (X.take k).contains x := by
    intro k
    induction k with
    | zero => intro _; rfl
    | succ k ih =>
      intro hk
      have hx : X[k]? = some X[k] := List.getElem?_eq_getElem (by omega)
      have ih := ih (by omega)
      rw [take_succ' hx, firstL_snoc]
      rw [contains_snoc, ← ih]
      split
      · next h =>
        by_cases e : x = X[k]
        · rw [e, h]; rfl
        · rw [decide_eq_false e, Bool.or_false]
      · rw [contains_snoc]
  have := H X.length (Nat.le_refl _)
  rwa [List.take_length] at this
theorem pdif_all {X : List Int} (h : ∀ x ∈ X, 1 ≤ x ∧ x ≤ 9) : pdif X 9 = (firstL X).length := by
  have H : ∀ k, k ≤ X.length → pdif (X.take k) 9 = (firstL (X.take k)).length := by
    intro k
    induction k with
    | zero => intro _; rw [List.take_zero, pdif_nil]; rfl
    | succ k ih =>
      intro hk
      have hx : X[k]? = some X[k] := List.getElem?_eq_getElem (by omega)
      have h1 := h X[k] (List.getElem_mem _)
      have ih := ih (by omega)
      rw [take_succ' hx]
      cases hc : (X.take k).contains X[k]
      · have hn : X[k] ∉ X.take k := by simpa using hc
        rw [pdif_snoc_new _ _ (List.count_eq_zero.2 hn), ih, if_pos (by omega), firstL_new (by rw [mem_first]; exact hc)]
        simp
      · have hn : X[k] ∈ X.take k := by simpa using hc
        rw [pdif_snoc_old _ _ (List.count_pos_iff.2 hn), ih, firstL_old (by rw [mem_first]; exact hc)]
  have := H X.length (Nat.le_refl _)
  rwa [List.take_length] at this
theorem first_head {X : List Int} {x : Int} (hx0 : X[0]? = some x) : (firstL X)[0]? = some x := by
  have H : ∀ k, k ≤ X.length → 1 ≤ k → (firstL (X.take k))[0]? = some x := by
    intro k
    induction k with
    | zero => intro _ h; omega
    | succ k ih =>
      intro hk _
      have hx : X[k]? = some X[k] := List.getElem?_eq_getElem (by omega)
      rcases Nat.eq_zero_or_pos k with h0 | h0
      · subst h0
        have e1 : X.take (0 + 1) = [x] := by rw [take_succ' hx0]; rfl
        rw [e1]; rfl
      · have ih := ih (by omega) h0
        rw [take_succ' hx, firstL_snoc]
        split
        · exact ih
        · rw [List.getElem?_append_left (by
            rcases Nat.lt_or_ge 0 (firstL (X.take k)).length with h | h
            · exact h
            · rw [List.getElem?_eq_none h] at ih; cases ih)]
          exact ih
  have h1 : 1 ≤ X.length := by
    rcases Nat.lt_or_ge 0 X.length with h | h
    · exact h
    · rw [List.getElem?_eq_none h] at hx0; cases hx0
  have := H X.length (Nat.le_refl _) h1
  rwa [List.take_length] at this
end Go.Proofs.Ytflfdngcgebmmaa
