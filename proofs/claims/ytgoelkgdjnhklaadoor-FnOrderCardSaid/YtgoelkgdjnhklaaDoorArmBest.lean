/- The simplest of a row of arms: a plain function. -/
import Derived.Test.YtgoelkgdjnhklaaDoorArmRow
import Derived.Test.YtgoelkgdjnhklaaDoorKE
namespace Go.Proofs.YtgoelkgdjnhklaaDoor
open Go.RowKit

def Arm.ok (A : Arm) : Bool := aOkB A.d A.l A.f A.s A.o A.n A.x A.c A.k A.a A.t A.c' A.k' A.a' A.t'
def Arm.lay (A : Arm) : Int := layN A.o (gNoB A.c A.k A.a A.t) (gNoB A.c' A.k' A.a' A.t')
def Arm.chg (A : Arm) : Int := A.c + A.c'
/-- Fewer layers, or as many and fewer charges. -/
def Arm.less (A B : Arm) : Bool := if A.lay = B.lay then decide (A.chg < B.chg) else decide (A.lay < B.lay)
/-- The index of the simplest of the first k. -/
def bestN (X : List Arm) : Nat → Nat
  | 0 => 0
  | k + 1 => if (X.getD k default).less (X.getD (bestN X k) default) then k else bestN X k
theorem getA {X : List Arm} {k : Nat} {A : Arm} (h : X[k]? = some A) : X.getD k default = A := by simp [List.getD, h]
theorem bestN_yes {X : List Arm} {k : Nat} {A B : Arm} (hA : X[k]? = some A) (hB : X[bestN X k]? = some B) (h : A.less B = true) : bestN X (k + 1) = k := by
  show (if (X.getD k default).less (X.getD (bestN X k) default) = true then k else bestN X k) = k
  rw [getA hA, getA hB, if_pos h]
theorem bestN_no {X : List Arm} {k : Nat} {A B : Arm} (hA : X[k]? = some A) (hB : X[bestN X k]? = some B) (h : A.less B = false) : bestN X (k + 1) = bestN X k := by
  show (if (X.getD k default).less (X.getD (bestN X k) default) = true then k else bestN X k) = bestN X k
  rw [getA hA, getA hB, if_neg (by rw [h]; simp)]
theorem bestN_lt (X : List Arm) : ∀ k, bestN X k ≤ k
  | 0 => Nat.le_refl _
  | k + 1 => by
    show (if _ then k else bestN X k) ≤ k + 1
    have := bestN_lt X k
    split <;> omega
theorem bestN_in {X : List Arm} : ∀ {k : Nat}, 0 < X.length → k ≤ X.length → bestN X k < X.length
  | 0, h, _ => h
  | k + 1, h, hk => by
    show (if _ then k else bestN X k) < X.length
    have := bestN_in (k := k) h (by omega)
    split <;> omega
theorem less_lay {A B : Arm} (h : A.less B = true) : A.lay ≤ B.lay := by
  unfold Arm.less at h
  split at h
  · omega
  · have := of_decide_eq_true h; omega
theorem not_less {A B : Arm} (h : A.less B = false) : B.lay ≤ A.lay := by
  unfold Arm.less at h
  split at h
  · omega
  · have := of_decide_eq_false h; omega
/-- None of the first k has fewer layers than the simplest one. -/
theorem bestN_min {X : List Arm} : ∀ {k : Nat}, k ≤ X.length → ∀ j, j < k → (X.getD (bestN X k) default).lay ≤ (X.getD j default).lay
  | 0, _, j, h => absurd h (by omega)
  | k + 1, hk, j, hj => by
    have ih := bestN_min (X := X) (k := k) (by omega)
    have e : bestN X (k + 1) = if (X.getD k default).less (X.getD (bestN X k) default) = true then k else bestN X k := rfl
    rw [e]
    by_cases h : (X.getD k default).less (X.getD (bestN X k) default) = true
    · rw [if_pos h]
      by_cases hjk : j = k
      · subst hjk; omega
      · exact Int.le_trans (less_lay h) (ih j (by omega))
    · rw [if_neg h]
      by_cases hjk : j = k
      · subst hjk; exact not_less (by simpa using h)
      · exact ih j (by omega)
theorem atA_of_lt {X : List Arm} {k n : Nat} (hX : X.length = n) (hk : k < n) : ∃ A, X[k]? = some A ∧ A ∈ X :=
  ⟨X[k]'(by omega), List.getElem?_eq_getElem (by omega), List.getElem_mem _⟩
theorem takeA_succ {X : List Arm} {k : Nat} {A : Arm} (h : X[k]? = some A) : X.take (k + 1) = X.take k ++ [A] := by rw [List.take_add_one, h]; rfl
theorem okA_succ {X : List Arm} {k : Nat} {A : Arm} (h : X[k]? = some A) (hk : (X.take k).all Arm.ok = true) (hA : A.ok = true) : (X.take (k + 1)).all Arm.ok = true := by
  rw [takeA_succ h, List.all_append, hk]; simp [hA]
theorem okA_bad {X : List Arm} {k : Nat} {A : Arm} (h : X[k]? = some A) (hA : A.ok = false) : X.all Arm.ok = false := by
  rw [List.all_eq_false]
  exact ⟨A, List.mem_of_getElem? h, by rw [hA]; simp⟩
theorem okA_at {X : List Arm} {k j : Nat} {A : Arm} (h : X[j]? = some A) (hj : j < k) (hk : (X.take k).all Arm.ok = true) : A.ok = true := by
  have h1 : (X.take k)[j]? = some A := by rw [List.getElem?_take_of_lt hj, h]
  exact List.all_eq_true.1 hk A (List.mem_of_getElem? h1)
/-- The answer of Simplest. -/
def simpI (X : List Arm) : Int := if 1 ≤ X.length ∧ X.length ≤ 20 ∧ X.all Arm.ok = true then (bestN X X.length : Nat) else 0
def simpB (X : List Arm) : Bool := decide (1 ≤ X.length ∧ X.length ≤ 20 ∧ X.all Arm.ok = true)
theorem rdA_cells {w : World} {b o : Nat} {A : Arm} (h : ∀ j z, A.ints[j]? = some z → w.cell? ⟨b, o + j, none⟩ = some (.int .i64 z)) : w.cell? ⟨b, o, none⟩ = some (.int .i64 A.d) ∧ w.cell? ⟨b, o + 1, none⟩ = some (.int .i64 A.l) ∧ w.cell? ⟨b, o + 2, none⟩ = some (.int .i64 A.f) ∧ w.cell? ⟨b, o + 3, none⟩ = some (.int .i64 A.s) ∧ w.cell? ⟨b, o + 4, none⟩ = some (.int .i64 A.o) ∧ w.cell? ⟨b, o + 5, none⟩ = some (.int .i64 A.n) ∧ w.cell? ⟨b, o + 6, none⟩ = some (.int .i64 A.x) ∧ w.cell? ⟨b, o + 7, none⟩ = some (.int .i64 A.c) ∧ w.cell? ⟨b, o + 8, none⟩ = some (.int .i64 A.k) ∧ w.cell? ⟨b, o + 9, none⟩ = some (.int .i64 A.a) ∧ w.cell? ⟨b, o + 10, none⟩ = some (.int .i64 A.t) ∧ w.cell? ⟨b, o + 11, none⟩ = some (.int .i64 A.c') ∧ w.cell? ⟨b, o + 12, none⟩ = some (.int .i64 A.k') ∧ w.cell? ⟨b, o + 13, none⟩ = some (.int .i64 A.a') ∧ w.cell? ⟨b, o + 14, none⟩ = some (.int .i64 A.t') :=
  ⟨h 0 _ rfl, h 1 _ rfl, h 2 _ rfl, h 3 _ rfl, h 4 _ rfl, h 5 _ rfl, h 6 _ rfl, h 7 _ rfl, h 8 _ rfl, h 9 _ rfl, h 10 _ rfl, h 11 _ rfl, h 12 _ rfl, h 13 _ rfl, h 14 _ rfl⟩
end Go.Proofs.YtgoelkgdjnhklaaDoor
