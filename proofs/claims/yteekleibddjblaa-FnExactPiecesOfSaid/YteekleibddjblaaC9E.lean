/- Contracts: EdgeLength of both sides. -/
import Derived.Test.YteekleibddjblaaC9B
import Derived.Deep.RegionHeld3
import Derived.Deep.DeepCutAuto
namespace Go.Proofs.Yteekleibddjblaa
open Go.RowKit

/-- How many cells of row y have an open side k. -/
def sideN (X : List Int) (y k : Nat) : Nat := popN (lessN (NX X y) (besN X y k))
/-- The open sides of the first y rows. -/
def edgeTo (X : List Int) : Nat → Nat
  | 0 => 0
  | y + 1 => edgeTo X y + (sideN X y 0 + sideN X y 1 + sideN X y 2 + sideN X y 3)
theorem edgeTo_le (X : List Int) : ∀ y, edgeTo X y ≤ 80 * y
  | 0 => by simp [edgeTo]
  | y + 1 => by
    have h := edgeTo_le X y
    have h0 : sideN X y 0 ≤ 20 := popN_le _
    have h1 : sideN X y 1 ≤ 20 := popN_le _
    have h2 : sideN X y 2 ≤ 20 := popN_le _
    have h3 : sideN X y 3 ≤ 20 := popN_le _
    show edgeTo X y + _ ≤ _; omega
theorem besN_lt {X : List Int} (hg : goodR X = true) {y : Nat} (hy : y < 24) (k : Nat) : besN X y k < 1099511627776 := by
  have h0 := NX_lt hg hy
  unfold besN
  split
  · omega
  · split
    · omega
    · split
      · split
        · omega
        · have := NX_lt hg (y := y - 1) (by omega); omega
      · split
        · have := NX_lt hg (y := y + 1) (by omega); omega
        · omega
/-- The open sides of the cell z. -/
def openN (X : List Int) (z : Nat) : Nat := cntB (fun k => !hasZ X (bxZ ((z : Int) % 20) k) (byZ ((z : Int) / 20) k)) 4
/-- The open sides of the first i cells of a list. -/
def opTo (X l : List Int) : Nat → Nat
  | 0 => 0
  | i + 1 => opTo X l i + openN X (l.getD i 0).toNat
theorem openN_le (X : List Int) (z : Nat) : openN X z ≤ 4 := cntB_le _ 4
theorem opTo_le (X l : List Int) : ∀ i, opTo X l i ≤ 4 * i
  | 0 => by simp [opTo]
  | i + 1 => by have := opTo_le X l i; have := openN_le X (l.getD i 0).toNat; show opTo X l i + _ ≤ _; omega
theorem opTo_append (X l : List Int) (z : Nat) : opTo X (l ++ [(z : Int)]) (l.length + 1) = opTo X l l.length + openN X z := by
  have h : ∀ i, i ≤ l.length → opTo X (l ++ [(z : Int)]) i = opTo X l i := by
    intro i
    induction i with
    | zero => intro _; rfl
    | succ i ih =>
      intro hi
      show opTo X (l ++ [(z : Int)]) i + _ = opTo X l i + _
      rw [ih (by omega)]
      simp [List.getD, List.getElem?_append_left (show i < l.length by omega)]
  show opTo X (l ++ [(z : Int)]) l.length + _ = _
  rw [h _ (Nat.le_refl _)]
  simp [List.getD]
theorem cellsK_mem {X : List Int} {k i : Nat} (hi : i < (cellsK X k).length) : ∃ z : Nat, (cellsK X k).getD i 0 = (z : Int) ∧ z < k := by
  have hm : (cellsK X k)[i] ∈ cellsK X k := List.getElem_mem hi
  unfold cellsK at hm
  obtain ⟨z, hz, e⟩ := List.mem_map.1 hm
  have := (List.mem_filter.1 hz).1
  rw [List.mem_range] at this
  have h2 : (cellsK X k).getD i 0 = (cellsK X k)[i] := by simp [List.getD, List.getElem?_eq_getElem hi]
  exact ⟨z, h2.trans e.symm, this⟩
/-- What row y has of open sides, cell by cell. -/
def rowO (X : List Int) (y : Nat) : Nat → Nat
  | 0 => 0
  | x + 1 => rowO X y x + if hasB X x y then openN X (20 * y + x) else 0
theorem opTo_row (X : List Int) (y : Nat) : ∀ x, x ≤ 20 → opTo X (cellsK X (20 * y + x)) (cellsK X (20 * y + x)).length = opTo X (cellsK X (20 * y)) (cellsK X (20 * y)).length + rowO X y x
  | 0, _ => rfl
  | x + 1, h => by
    have ih := opTo_row X y x (by omega)
    rw [← Nat.add_assoc]
    show _ = _ + (rowO X y x + _)
    cases hb : hasB X x y
    · rw [cellsK_out X (by omega) hb, ih]; simp
    · rw [cellsK_in X (by omega) hb, List.length_append]
      have e : (20 * (y : Int) + (x : Int)) = ((20 * y + x : Nat) : Int) := by omega
      rw [e]
      show opTo X _ ((cellsK X (20 * y + x)).length + 1) = _
      rw [opTo_append, ih]; simp; omega
theorem rowO_sum (X : List Int) {y : Nat} (P : Nat → Nat → Bool) (h : ∀ x k, x < 20 → k < 4 → hasZ X (bxZ (((20 * y + x : Nat) : Int) % 20) k) (byZ (((20 * y + x : Nat) : Int) / 20) k) = P x k) :
    ∀ x, x ≤ 20 → rowO X y x = cntB (fun i => hasB X i y && !P i 0) x + cntB (fun i => hasB X i y && !P i 1) x + cntB (fun i => hasB X i y && !P i 2) x + cntB (fun i => hasB X i y && !P i 3) x
  | 0, _ => rfl
  | x + 1, hx => by
    have ih := rowO_sum X P h x (by omega)
    simp only [cntB_succ]
    show rowO X y x + _ = _
    rw [ih]
    have ho : openN X (20 * y + x) = (if !P x 0 then 1 else 0) + (if !P x 1 then 1 else 0) + (if !P x 2 then 1 else 0) + (if !P x 3 then 1 else 0) := by
      unfold openN
      rw [cntB_congr (q := fun k => !P x k) (fun k hk => by rw [h x k (by omega) hk])]
      simp only [cntB]
      omega
    rw [ho]
    cases hasB X x y <;> cases P x 0 <;> cases P x 1 <;> cases P x 2 <;> cases P x 3 <;> simp <;> omega
theorem hasB_bit {X : List Int} {x y : Nat} : hasB X x y = (NX X y).testBit x := rfl
theorem bes_bit {X : List Int} (hg : goodR X = true) {x y k : Nat} (hx : x < 20) (hy : y < 24) (hk : k < 4) : hasZ X (bxZ (((20 * y + x : Nat) : Int) % 20) k) (byZ (((20 * y + x : Nat) : Int) / 20) k) = (besN X y k).testBit x := by
  have e1 : (((20 * y + x : Nat) : Int) % 20) = (x : Int) := by omega
  have e2 : (((20 * y + x : Nat) : Int) / 20) = (y : Int) := by omega
  rw [e1, e2]
  have hk4 : k = 0 ∨ k = 1 ∨ k = 2 ∨ k = 3 := by omega
  have hz : ∀ u v : Nat, u < 20 → v < 24 → hasZ X (u : Int) (v : Int) = (NX X v).testBit u := fun u v hu hv => by
    unfold hasZ
    rw [decide_eq_true (by omega), decide_eq_true (by omega)]
    simp [hasB_bit]
  rcases hk4 with rfl | rfl | rfl | rfl
  · show hasZ X ((x : Int) - 1) (y : Int) = (2 * NX X y).testBit x
    rcases Nat.eq_zero_or_pos x with rfl | h0
    · unfold hasZ
      rw [decide_eq_false (by omega)]
      simp [Nat.testBit_zero]
    · rw [show ((x : Int) - 1) = ((x - 1 : Nat) : Int) by omega, hz _ _ (by omega) hy]
      obtain ⟨m, rfl⟩ : ∃ m, x = m + 1 := ⟨x - 1, by omega⟩
      rw [Nat.testBit_succ, show 2 * NX X y / 2 = NX X y by omega]; rfl
  · show hasZ X ((x : Int) + 1) (y : Int) = (NX X y / 2).testBit x
    rw [← Nat.testBit_succ]
    rcases Nat.lt_or_ge (x + 1) 20 with h1 | h1
    · rw [show ((x : Int) + 1) = ((x + 1 : Nat) : Int) by omega, hz _ _ h1 hy]
    · unfold hasZ
      rw [decide_eq_false (by omega)]
      have := NX_lt hg hy
      rw [Nat.testBit_lt_two_pow (Nat.lt_of_lt_of_le (show NX X y < 2 ^ 20 by omega) (Nat.pow_le_pow_right (by omega) h1))]; rfl
  · show hasZ X (x : Int) ((y : Int) - 1) = (if y = 0 then 0 else NX X (y - 1)).testBit x
    rcases Nat.eq_zero_or_pos y with rfl | h0
    · unfold hasZ
      rw [decide_eq_false (p := 0 ≤ ((0 : Nat) : Int) - 1 ∧ ((0 : Nat) : Int) - 1 ≤ 23) (by omega)]
      simp
    · rw [if_neg (by omega), show ((y : Int) - 1) = ((y - 1 : Nat) : Int) by omega, hz _ _ hx (by omega)]
  · show hasZ X (x : Int) ((y : Int) + 1) = (if y + 1 < 24 then NX X (y + 1) else 0).testBit x
    by_cases h1 : y + 1 < 24
    · rw [if_pos h1, show ((y : Int) + 1) = ((y + 1 : Nat) : Int) by omega, hz _ _ hx h1]
    · rw [if_neg h1]
      unfold hasZ
      rw [decide_eq_false (p := 0 ≤ (y : Int) + 1 ∧ (y : Int) + 1 ≤ 23) (by omega)]
      simp
theorem side_cnt {X : List Int} (hg : goodR X = true) {y : Nat} (hy : y < 24) (k : Nat) : sideN X y k = cntB (fun i => hasB X i y && !(besN X y k).testBit i) 20 := by
  unfold sideN popN
  refine cntB_congr fun x _ => ?_
  rw [lessN_bit (besN_lt hg hy k) (by have := NX_lt hg hy; omega)]
  rfl
theorem edge_rows {X : List Int} (hg : goodR X = true) : ∀ y, y ≤ 24 → opTo X (cellsK X (20 * y)) (cellsK X (20 * y)).length = edgeTo X y
  | 0, _ => rfl
  | y + 1, h => by
    rw [show 20 * (y + 1) = 20 * y + 20 by omega, opTo_row X y 20 (Nat.le_refl _), edge_rows hg y (by omega), rowO_sum X (fun x k => (besN X y k).testBit x) (fun x k hx hk => bes_bit hg hx (by omega) hk) 20 (Nat.le_refl _)]
    show _ = edgeTo X y + _
    rw [side_cnt hg (by omega) 0, side_cnt hg (by omega) 1, side_cnt hg (by omega) 2, side_cnt hg (by omega) 3]
theorem rd_at {W : World} {a : Option Addr} {n : Nat} {X : List Int} (h : RdI W a n X) (hn : 0 < n) : ∃ b o, a = some ⟨b, o, none⟩ ∧ ∀ i, i < n → W.cell? ⟨b, o + i, none⟩ = some (.int .i64 (X.getD i 0)) := by
  obtain ⟨b, o, e, _, hc⟩ := h.2 hn
  exact ⟨b, o, e, hc⟩
end Go.Proofs.Yteekleibddjblaa
