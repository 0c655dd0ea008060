/- Contracts: slices.Clone of ints and of strings; the program's rows of charges and its attitudes. -/
import Derived.Test.YtklfkdmmclomoaaDoorRGroups
import Derived.Test.YtklfkdmmclomoaaDoorGAtt
import Derived.Test.YtklfkdmmclomoaaDoorShelf
import Derived.Deep.AppendLies
namespace Go.Proofs.YtklfkdmmclomoaaDoor
open Go.RowKit

theorem clone_i (X : List Int) (a : Option Addr) (c : Nat) (w : World) (h : RdI w a X.length X) (h0 : 0 < X.length) (h1 : X.length ≤ 1000) :
    Calls Tryd.prog 61 #[.slice a X.length c] w (AnsL w X) := by
  obtain ⟨b, o, rfl, hlt, hc⟩ := h.2 h0
  refine (Tryd.slices_Clone_int b o X.length c X w (Nat.le_refl _) (by omega) hc).mono ?_
  rintro e w' ⟨v', rfl, ho, _, hb⟩
  rw [List.take_length] at ho
  obtain ⟨g, cap, rfl, _⟩ := World.ownsRow.form ho h0
  exact ⟨_, _, rfl, ho, hb⟩
theorem clone_s (X : List ByteArray) (a : Option Addr) (c : Nat) (w : World) (h : RdS w a X.length X) (h1 : X.length ≤ 1000) :
    Calls Tryd.prog 73 #[.slice a X.length c] w (AnsTL w X) := by
  rcases Nat.eq_zero_or_pos X.length with h0 | h0
  · obtain rfl := List.eq_nil_of_length_eq_zero h0
    cases a with
    | none =>
      refine (Tryd.slices_Clone_string_nil 0 c w).mono ?_
      rintro e w' ⟨rfl, rfl⟩
      exact ⟨none, 0, rfl, ownS_nil _ _, Below.refl _ _⟩
    | some a =>
      refine (Tryd.slices_Clone_string_zero a c w).mono ?_
      rintro e w' ⟨v', rfl, ho, _, hb⟩
      rcases ho.2 with ⟨h2, _⟩ | ⟨g, cap, cur, h2, h3, h4⟩
      · rw [h2]
        exact ⟨none, 0, rfl, ownS_nil _ _, hb⟩
      · rw [h2] at ho ⊢
        exact ⟨_, _, rfl, ho, hb⟩
  · obtain ⟨b, o, rfl, hlt, hc⟩ := h.2 h0
    refine (Tryd.slices_Clone_string b o X.length c X w (Nat.le_refl _) (by omega) hc).mono ?_
    rintro e w' ⟨v', rfl, ho, _, hb⟩
    rw [List.take_length] at ho
    obtain ⟨g, cap, rfl, _⟩ := World.ownsRow.form ho h0
    exact ⟨_, _, rfl, ho, hb⟩
theorem rowL_pos (n : Int) : 0 < (rowL n).length := by
  unfold rowL
  repeat' split
  all_goals simp
theorem rows_impl (n : Int) (w : World) (h1 : 1 ≤ n) (h6 : n ≤ 6) (hR : RowsLie w) :
    Calls Tryd.prog 21 #[.int .i64 n] w (Ans w (rowL n) true) := by
  obtain ⟨j, rfl⟩ : ∃ j : Nat, n = (j : Int) + 1 := ⟨(n - 1).toNat, by omega⟩
  have hj : j < 6 := by omega
  have c1 := fun W => isCount_any ((j : Int) + 1) W true (decide_eq_true ⟨h1, h6⟩)
  obtain ⟨x, hc, hr⟩ := hR j hj
  have cc := clone_i (rowL ((j : Int) + 1)) x (rowL ((j : Int) + 1)).length w hr (rowL_pos _) (rowL_len _)
  unfold AnsL at cc
  unfold Ans
  generalize rowL ((j : Int) + 1) = X at *
  obtain ⟨N, hN⟩ : ∃ N, X.length = N := ⟨_, rfl⟩
  rw [hN] at hc cc ⊢
  clear h1 h6 hr hN hR
  have CC := Lib.hid cc
  clear cc
  go_enter Tryd.func21, Tryd.ntmps21
  go_wp2_with fail
  refine (c1 _).mono ?_
  rintro e w' ⟨rfl, rfl⟩
  go_wp2_with fail
  refine CC.out.mono ?_
  rintro e w' ⟨a, cap, rfl, ho, hb⟩
  go_wp2_with fail
  go_ret2
  exact ⟨a, cap, rfl, ho, hb⟩
theorem rows_impl_no (n : Int) (w : World) (h : n < 1 ∨ 6 < n) :
    Calls Tryd.prog 21 #[.int .i64 n] w (Ans w [] false) := by
  have c1 := fun W => isCount_any n W false (decide_eq_false (by omega))
  clear h
  go_enter Tryd.func21, Tryd.ntmps21
  go_wp2_with fail
  refine (c1 _).mono ?_
  rintro e w' ⟨rfl, rfl⟩
  go_wp2_with fail
  go_ret2
  exact ans_nil _ false
theorem attitudes_impl (x : Int) (w : World) (hA : AttsLie w) :
    Calls Tryd.prog 35 #[.int .i64 x] w (AnsT w (attsA x) (decide (1 ≤ x ∧ x ≤ 8))) := by
  by_cases h : 1 ≤ x ∧ x ≤ 8
  · obtain ⟨j, rfl⟩ : ∃ j : Nat, x = (j : Int) + 1 := ⟨(x - 1).toNat, by omega⟩
    have hj : j < 8 := by omega
    have c1 := fun W => isKind_any ((j : Int) + 1) W true (decide_eq_true h)
    obtain ⟨y, hc, hr⟩ := hA j hj
    have cc := clone_s (attsL ((j : Int) + 1)) y (attsL ((j : Int) + 1)).length w hr (Nat.le_trans (attsL_len _) (by omega))
    unfold attsA
    rw [if_pos h, decide_eq_true h]
    unfold AnsTL at cc
    unfold AnsT
    generalize attsL ((j : Int) + 1) = X at *
    obtain ⟨N, hN⟩ : ∃ N, X.length = N := ⟨_, rfl⟩
    rw [hN] at hc cc ⊢
    clear h hr hN hA
    have CC := Lib.hid cc
    clear cc
    go_enter Tryd.func35, Tryd.ntmps35
    go_wp2_with fail
    refine (c1 _).mono ?_
    rintro e w' ⟨rfl, rfl⟩
    go_wp2_with fail
    refine CC.out.mono ?_
    rintro e w' ⟨a, cap, rfl, ho, hb⟩
    go_wp2_with fail
    go_ret2
    exact ⟨a, cap, rfl, ho, hb⟩
  · have c1 := fun W => isKind_any x W false (decide_eq_false h)
    unfold attsA
    rw [if_neg h, decide_eq_false h]
    clear h hA
    go_enter Tryd.func35, Tryd.ntmps35
    go_wp2_with fail
    refine (c1 _).mono ?_
    rintro e w' ⟨rfl, rfl⟩
    go_wp2_with fail
    go_ret2
    exact ansT_nil _ false
end Go.Proofs.YtklfkdmmclomoaaDoor
