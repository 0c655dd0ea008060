/- Plain facts: insertion, as the model does it and as the library does it. Nothing here speaks of the program. -/
import Derived.Test.YtgoelkgdjnhklaaDoorKA
import Derived.Sort.Defs
namespace Go.Proofs.YtgoelkgdjnhklaaDoor
open Go.Sort

section
variable {α : Type} [Inhabited α] (lt : α → α → Bool)
/-- Where x is put among the first k elements: behind the last one that is not greater. -/
def posP (l : List α) (x : α) : Nat → Nat
  | 0 => 0
  | k + 1 => if lt x l[k]! then posP l x k else k + 1
def insP (l : List α) (x : α) (k : Nat) : List α := l.take (posP lt l x k) ++ x :: l.drop (posP lt l x k)
def sortX (xs : List α) : Nat → List α
  | 0 => []
  | i + 1 => insP lt (sortX xs i) xs[i]! i
theorem posP_le (l : List α) (x : α) : ∀ k, posP lt l x k ≤ k
  | 0 => Nat.le_refl _
  | k + 1 => by
    rw [posP]
    split
    · exact Nat.le_succ_of_le (posP_le l x k)
    · exact Nat.le_refl _
theorem insP_len (l : List α) (x : α) (k : Nat) : (insP lt l x k).length = l.length + 1 := by
  unfold insP
  simp only [List.length_append, List.length_cons, List.length_take, List.length_drop]
  omega
theorem sortX_len (xs : List α) : ∀ i, (sortX lt xs i).length = i
  | 0 => rfl
  | i + 1 => by rw [sortX, insP_len, sortX_len xs i]
theorem getB {L : List α} {i : Nat} {v : α} (h : L[i]? = some v) : L[i]! = v := by
  rw [List.getElem!_eq_getElem?_getD, h]; rfl
theorem getA! {L : List α} {i : Nat} {v : α} (h : L[i]? = some v) : L.toArray[i]! = v := by
  rw [List.getElem!_toArray]; exact getB h
theorem swp_at (A R : List α) (y x : α) : swp (A ++ y :: x :: R).toArray (A.length + 1) A.length = (A ++ x :: y :: R).toArray := by
  unfold swp
  rw [getA! (v := y) (by simp), getA! (v := x) (by simp)]
  simp only [List.setIfInBounds_toArray]
  congr 1
  rw [List.set_append_right _ _ (by omega), show A.length + 1 - A.length = 1 by omega]
  simp
theorem insInner_list (pre : List α) (x : α) (post : List α) : ∀ k, k ≤ pre.length → insInner lt 0 k (pre.take k ++ x :: (pre.drop k ++ post)).toArray = (insP lt pre x k ++ post).toArray
  | 0, _ => by simp [insInner, insP, posP]
  | k + 1, hk => by
    have hy : pre[k]? = some pre[k] := List.getElem?_eq_getElem (by omega)
    have hl : (pre.take k).length = k := by rw [List.length_take]; omega
    have e1 : pre.take (k + 1) = pre.take k ++ [pre[k]] := by rw [List.take_add_one, hy]; rfl
    have e2 : pre.drop k = pre[k] :: pre.drop (k + 1) := List.drop_eq_getElem_cons (by omega)
    have eL : pre.take (k + 1) ++ x :: (pre.drop (k + 1) ++ post) = pre.take k ++ pre[k] :: x :: (pre.drop (k + 1) ++ post) := by rw [e1, List.append_assoc]; rfl
    have g1 : (pre.take k ++ pre[k] :: x :: (pre.drop (k + 1) ++ post))[k + 1]? = some x := by
      rw [List.getElem?_append_right (by omega), hl, show k + 1 - k = 1 by omega]; rfl
    have g0 : (pre.take k ++ pre[k] :: x :: (pre.drop (k + 1) ++ post))[k]? = some pre[k] := by
      rw [List.getElem?_append_right (by omega), hl, Nat.sub_self]; rfl
    rw [eL, insInner, getA! g1, getA! g0]
    have ep : pre[k]! = pre[k] := getB hy
    cases hc : lt x pre[k]
    · rw [if_neg (by simp)]
      unfold insP
      rw [posP, ep, hc, if_neg (by simp), ← eL]
      simp
    · rw [if_pos (by simp)]
      have hs := swp_at (pre.take k) (pre.drop (k + 1) ++ post) pre[k] x
      rw [hl] at hs
      rw [hs]
      have ih := insInner_list pre x post k (by omega)
      rw [e2] at ih
      have e3 : insP lt pre x (k + 1) = insP lt pre x k := by unfold insP; rw [posP, ep, hc, if_pos rfl]
      rw [e3, ← ih, List.cons_append]
theorem insOuter_list (xs : List α) : ∀ (m i : Nat), i + m = xs.length → insOuter lt 0 xs.length i (sortX lt xs i ++ xs.drop i).toArray = (sortX lt xs xs.length).toArray
  | 0, i, h => by
    have : i = xs.length := by omega
    subst this
    rw [insOuter, if_neg (by omega)]
    simp
  | m + 1, i, h => by
    have hx : xs[i]? = some xs[i] := List.getElem?_eq_getElem (by omega)
    rw [insOuter, if_pos (by omega), List.drop_eq_getElem_cons (by omega : i < xs.length)]
    have hl := sortX_len lt xs i
    have q := insInner_list lt (sortX lt xs i) xs[i] (xs.drop (i + 1)) i (by omega)
    rw [List.take_of_length_le (by omega), List.drop_of_length_le (by omega), List.nil_append] at q
    rw [q]
    have e : insP lt (sortX lt xs i) xs[i] i = sortX lt xs (i + 1) := by rw [sortX, getB hx]
    rw [e]
    exact insOuter_list xs m (i + 1) (by omega)
/-- The library's insertion sort of a whole row. -/
theorem insertion_list (xs : List α) (h : 1 ≤ xs.length) : insertionSort lt xs.toArray 0 xs.length = (sortX lt xs xs.length).toArray := by
  unfold insertionSort
  have hx : xs[0]? = some xs[0] := List.getElem?_eq_getElem (by omega)
  have q := insOuter_list lt xs (xs.length - 1) 1 (by omega)
  have e : sortX lt xs 1 = [xs[0]] := by rw [sortX, getB hx]; simp [insP, posP, sortX]
  rw [e] at q
  rw [show (0 : Nat) + 1 = 1 by rfl, ← q]
  congr 2
  cases xs with
  | nil => simp at h
  | cons a r => rfl
/-- A second sort of nothing changes nothing. -/
theorem insertion_none (d : Array α) (n : Nat) : insertionSort lt d n n = d := by
  unfold insertionSort
  rw [insOuter, if_neg (by omega)]
end
section
variable {α β : Type} [Inhabited α] [Inhabited β]
theorem posP_map (f : α → β) (la : α → α → Bool) (lb : β → β → Bool) (hf : ∀ a b, lb (f a) (f b) = la a b) (l : List α) (x : α) : ∀ k, k ≤ l.length → posP lb (l.map f) (f x) k = posP la l x k
  | 0, _ => rfl
  | k + 1, h => by
    have hy : l[k]? = some l[k] := List.getElem?_eq_getElem (by omega)
    have h1 : l[k]! = l[k] := getB hy
    have h2 : (l.map f)[k]! = f l[k] := getB (by rw [List.getElem?_map, hy]; rfl)
    rw [posP, posP, h1, h2, hf, posP_map f la lb hf l x k (by omega)]
theorem insP_map (f : α → β) (la : α → α → Bool) (lb : β → β → Bool) (hf : ∀ a b, lb (f a) (f b) = la a b) (l : List α) (x : α) (k : Nat) (hk : k ≤ l.length) : (insP la l x k).map f = insP lb (l.map f) (f x) k := by
  unfold insP
  rw [posP_map f la lb hf l x k hk]
  simp
theorem sortX_map (f : α → β) (la : α → α → Bool) (lb : β → β → Bool) (hf : ∀ a b, lb (f a) (f b) = la a b) (xs : List α) : ∀ i, i ≤ xs.length → (sortX la xs i).map f = sortX lb (xs.map f) i
  | 0, _ => rfl
  | i + 1, h => by
    have hy : xs[i]? = some xs[i] := List.getElem?_eq_getElem (by omega)
    have h1 : xs[i]! = xs[i] := getB hy
    have h2 : (xs.map f)[i]! = f xs[i] := getB (by rw [List.getElem?_map, hy]; rfl)
    rw [sortX, sortX, insP_map f la lb hf _ _ i (by rw [sortX_len]; omega), sortX_map f la lb hf xs i (by omega), h1, h2]
end
/-- The numbers below n, sorted. -/
def sortN (lt : Nat → Nat → Bool) (n i : Nat) : List Nat := sortX lt (List.range n) i
theorem sortN_succ (lt : Nat → Nat → Bool) {n i : Nat} (h : i < n) : sortN lt n (i + 1) = insP lt (sortN lt n i) i i := by
  unfold sortN
  rw [sortX, getB (v := i) (by rw [List.getElem?_range h])]
theorem sortN_len (lt : Nat → Nat → Bool) (n i : Nat) : (sortN lt n i).length = i := sortX_len _ _ _
theorem sortN_lt (lt : Nat → Nat → Bool) {n : Nat} : ∀ {i : Nat}, i ≤ n → ∀ y ∈ sortN lt n i, y < i
  | 0, _ => fun y h => by cases h
  | i + 1, h => fun y hy => by
    rw [sortN_succ lt (by omega)] at hy
    unfold insP at hy
    rcases List.mem_append.1 hy with h1 | h1
    · have := sortN_lt lt (i := i) (by omega) y (List.mem_of_mem_take h1); omega
    · rcases List.mem_cons.1 h1 with rfl | h1
      · omega
      · have := sortN_lt lt (i := i) (by omega) y (List.mem_of_mem_drop h1); omega
/-- What is read off the place of x: the next one is greater, the one before is not. -/
theorem posP_spec {α : Type} [Inhabited α] (lt : α → α → Bool) (l : List α) (x : α) : ∀ k, (∀ j, posP lt l x k ≤ j → j < k → lt x l[j]! = true) ∧ (∀ j, posP lt l x k = j + 1 → lt x l[j]! = false)
  | 0 => ⟨fun j h1 h2 => by omega, fun j h => by simp [posP] at h⟩
  | k + 1 => by
    rw [posP]
    split
    · rename_i hc
      have ih := posP_spec lt l x k
      refine ⟨fun j h1 h2 => ?_, ih.2⟩
      by_cases hj : j < k
      · exact ih.1 j h1 hj
      · obtain rfl : j = k := by omega
        exact hc
    · rename_i hc
      refine ⟨fun j h1 h2 => by omega, fun j h => ?_⟩
      obtain rfl : k = j := by omega
      simpa using hc
/-- No number is followed by a smaller one. -/
theorem sortN_sorted (lt : Nat → Nat → Bool) (has : ∀ a b, lt a b = true → lt b a = false) {n : Nat} : ∀ {i : Nat}, i ≤ n → ∀ j, j + 1 < i → lt (sortN lt n i)[j + 1]! (sortN lt n i)[j]! = false
  | 0, _ => fun j h => by omega
  | i + 1, hi => fun j hj => by
    rw [sortN_succ lt (by omega)]
    have ih := sortN_sorted lt has (n := n) (i := i) (by omega)
    have hl := sortN_len lt n i
    have hp := posP_le lt (sortN lt n i) i i
    obtain ⟨s1, s2⟩ := posP_spec lt (sortN lt n i) i i
    unfold insP
    generalize sortN lt n i = l at *
    generalize posP lt l i i = p at *
    have hA : (l.take p).length = p := by rw [List.length_take]; omega
    have lo : ∀ q, q < p → (l.take p ++ i :: l.drop p)[q]! = l[q]! := fun q hq => by
      rw [List.getElem!_eq_getElem?_getD, List.getElem!_eq_getElem?_getD, List.getElem?_append_left (by omega), List.getElem?_take, if_pos hq]
    have mi : (l.take p ++ i :: l.drop p)[p]! = i := getB (by rw [List.getElem?_append_right (by omega), hA, Nat.sub_self]; rfl)
    have hi2 : ∀ q, p < q → (l.take p ++ i :: l.drop p)[q]! = l[q - 1]! := fun q hq => by
      rw [List.getElem!_eq_getElem?_getD, List.getElem!_eq_getElem?_getD, List.getElem?_append_right (by omega), hA, show q - p = (q - p - 1) + 1 by omega, List.getElem?_cons_succ, List.getElem?_drop, show p + (q - p - 1) = q - 1 by omega]
    by_cases h1 : j + 1 < p
    · rw [lo _ h1, lo _ (by omega)]; exact ih j (by omega)
    · by_cases h2 : j + 1 = p
      · rw [h2, mi, lo _ (by omega)]; exact s2 j h2.symm
      · by_cases h3 : j = p
        · subst h3
          rw [mi, hi2 _ (by omega), show j + 1 - 1 = j by omega]
          exact has _ _ (s1 j (Nat.le_refl _) (by omega))
        · rw [hi2 _ (by omega), hi2 _ (by omega)]
          have := ih (j - 1) (by omega)
          rw [show j - 1 + 1 = j by omega] at this
          rw [show j + 1 - 1 = j by omega]
          exact this
end Go.Proofs.YtgoelkgdjnhklaaDoor
