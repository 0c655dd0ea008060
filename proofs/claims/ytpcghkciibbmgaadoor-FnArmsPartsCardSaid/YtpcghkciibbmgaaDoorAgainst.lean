/- Contracts: TincturesAgainst of the program and of the model. -/
import Derived.Test.YtpcghkciibbmgaaDoorBases
import Derived.Test.YtpcghkciibbmgaaDoorClash
namespace Go.Proofs.YtpcghkciibbmgaaDoor
open Go.RowKit

theorem ownI_append {w : World} {B : Nat} {v : Value} {n : Nat} {X : List Int} (h : w.ownsRow B 3 1 v n (X.map (Value.int .i64))) : ∃ a cap, v = .slice a n cap ∧ OwnI w B a n cap X := by
  rcases h.2 with ⟨rfl, rfl⟩ | ⟨g, cap, cur, rfl, h2, h3⟩
  · exact ⟨none, 0, rfl, h⟩
  · exact ⟨some ⟨g, 0, none⟩, cap, rfl, h⟩
theorem agL_zero (x : Int) : agL x 0 = [] := rfl
theorem sliceR {w : World} {B : Nat} {v : Value} {n : Nat} {X Y : List Int} (h : w.ownsRow B 3 1 v n (X.map (Value.int .i64))) (e : X = Y) : w.ownsRow B 3 1 v Y.length (Y.map (Value.int .i64)) := by
  subst e
  have hl : X.length = n := by have := h.1; simpa using this
  rw [hl]; exact h
theorem app_len {w : World} {B : Nat} {v : Value} {n : Nat} {X : List Int} (h : w.ownsRow B 3 1 v n (X.map (Value.int .i64))) : X.length = n := by have := h.1; simpa using this
theorem app_one {w : World} {B : Nat} {v : Value} {n : Nat} {X : List Int} {x : Int} (h : w.ownsRow B 3 1 v n (X.map (Value.int .i64) ++ [.int .i64 x])) : w.ownsRow B 3 1 v n ((X ++ [x]).map (Value.int .i64)) := by simpa using h

end Go.Proofs.YtpcghkciibbmgaaDoor
