/- Several small texts in one: RVal. -/
import Derived.Test.YthapidnjioindaaDoorKC
import Derived.Test.YthapidnjioindaaDoorKD
import Derived.Test.YthapidnjioindaaDoorKG
namespace Go.Proofs.YthapidnjioindaaDoor
open Go.RowKit

theorem isLine_any (x : Int) (w : World) (p : Bool) (hp : decide (0 ≤ x ∧ x ≤ 4) = p) :
    Calls Tryd.prog 109 #[.int .i64 x] w fun e w' => e = .returned (.bool p) ∧ w = w' := by
  obtain ⟨p1, e1⟩ : ∃ p, decide (0 ≤ x) = p := ⟨_, rfl⟩
  obtain ⟨p2, e2⟩ : ∃ p, decide (x ≤ 4) = p := ⟨_, rfl⟩
  have hR : (p1 && p2) = p := by rw [← hp, ← e1, ← e2]; by_cases h : 0 ≤ x <;> by_cases h' : x ≤ 4 <;> simp [h, h']
  clear hp
  subst hR
  cases p1
  all_goals
    go_enter Tryd.func109, Tryd.ntmps109
    go_wp2_with fail
    go_ret
    exact ⟨by first | rfl | simp, rfl⟩
theorem isOrdinary_any (x : Int) (w : World) (p : Bool) (hp : decide (1 ≤ x ∧ x ≤ 7) = p) :
    Calls Tryd.prog 108 #[.int .i64 x] w fun e w' => e = .returned (.bool p) ∧ w = w' := by
  obtain ⟨p1, e1⟩ : ∃ p, decide (1 ≤ x) = p := ⟨_, rfl⟩
  obtain ⟨p2, e2⟩ : ∃ p, decide (x ≤ 7) = p := ⟨_, rfl⟩
  have hR : (p1 && p2) = p := by rw [← hp, ← e1, ← e2]; by_cases h : 1 ≤ x <;> by_cases h' : x ≤ 7 <;> simp [h, h']
  clear hp
  subst hR
  cases p1
  all_goals
    go_enter Tryd.func108, Tryd.ntmps108
    go_wp2_with fail
    go_ret
    exact ⟨by first | rfl | simp, rfl⟩
set_option maxHeartbeats 4000000 in
theorem validField_impl (d l f s : Int) (w : World) (r : Bool) (hr : decide (FOk d l f s) = r) :
    Calls Tryd.prog 106 #[.agg #[.int .i64 d, .int .i64 l, .int .i64 f, .int .i64 s]] w fun e w' => e = .returned (.bool r) ∧ Below w.heap.size w w' := by
  obtain ⟨p3, e3⟩ : ∃ p, decide (1 ≤ f ∧ f ≤ 9) = p := ⟨_, rfl⟩
  obtain ⟨p4, e4⟩ : ∃ p, decide (0 ≤ l ∧ l ≤ 4) = p := ⟨_, rfl⟩
  obtain ⟨p5, e5⟩ : ∃ p, decide (1 ≤ s ∧ s ≤ 9) = p := ⟨_, rfl⟩
  have C3 := Lib.hid (fun W => isT_any f W p3 e3)
  have C4 := Lib.hid (fun W => isLine_any l W p4 e4)
  have C5 := Lib.hid (fun W => isT_any s W p5 e5)
  cases p3
  · have hn := of_decide_eq_false e3
    have hr0 : r = false := by rw [← hr]; exact decide_eq_false fun h => hn h.2.2.1
    subst hr0
    clear hr e3 e4 e5 hn
    go_enter Tryd.func106, Tryd.ntmps106
    go_wp2_with fail
    refine (C3.out _).mono ?_
    rintro e w' ⟨rfl, rfl⟩
    go_wp2_with fail
    go_ret
    exact ⟨rfl, (Below.refl _ _).alloc (Nat.le_refl _) _⟩
  · have hf := of_decide_eq_true e3
    by_cases h0 : d = 0
    · subst h0
      by_cases hl : l = 0
      · subst hl
        by_cases hs : s = 0
        · subst hs
          have hr0 : r = true := by rw [← hr]; exact decide_eq_true ⟨by omega, by omega, hf, .inl ⟨rfl, rfl, rfl⟩⟩
          subst hr0
          clear hr e3 e4 e5 hf
          go_enter Tryd.func106, Tryd.ntmps106
          go_wp2_with fail
          refine (C3.out _).mono ?_
          rintro e w' ⟨rfl, rfl⟩
          go_wp2_with fail
          go_ret
          exact ⟨by first | rfl | simp, (Below.refl _ _).alloc (Nat.le_refl _) _⟩
        · have hr0 : r = false := by rw [← hr]; exact decide_eq_false fun h => by rcases h.2.2.2 with h | h; exact hs h.2.2; exact h.1 rfl
          subst hr0
          clear hr e3 e4 e5 hf
          go_enter Tryd.func106, Tryd.ntmps106
          go_wp2_with fail
          refine (C3.out _).mono ?_
          rintro e w' ⟨rfl, rfl⟩
          go_wp2_with fail
          all_goals (go_ret; exact ⟨by first | rfl | simp | (simp; omega), (Below.refl _ _).alloc (Nat.le_refl _) _⟩)
      · have hr0 : r = false := by rw [← hr]; exact decide_eq_false fun h => by rcases h.2.2.2 with h | h; exact hl h.2.1; exact h.1 rfl
        subst hr0
        clear hr e3 e4 e5 hf
        go_enter Tryd.func106, Tryd.ntmps106
        go_wp2_with fail
        refine (C3.out _).mono ?_
        rintro e w' ⟨rfl, rfl⟩
        go_wp2_with fail
        all_goals (go_ret; exact ⟨by first | rfl | simp | (simp; omega), (Below.refl _ _).alloc (Nat.le_refl _) _⟩)
    · have e0 : (d == 0) = false := by rw [beq_eq_false_iff_ne]; exact h0
      by_cases hd0 : d < 0
      · have e2 : decide (d < 0) = true := by simpa using hd0
        have CD := Lib.hid (fun W => isDivision_any d W false (decide_eq_false (by omega)))
        have hr0 : r = false := by rw [← hr]; exact decide_eq_false fun h => by have := h.1; omega
        subst hr0
        clear hr e3 e4 e5 hf h0 hd0
        go_enter Tryd.func106, Tryd.ntmps106
        go_wp2_with fail
        refine (C3.out _).mono ?_
        rintro e w' ⟨rfl, rfl⟩
        go_wp2_with fail
        refine (CD.out _).mono ?_
        rintro e w' ⟨rfl, rfl⟩
        go_wp2_with fail
        go_ret
        exact ⟨rfl, (Below.refl _ _).alloc (Nat.le_refl _) _⟩
      · have e2 : decide (d < 0) = false := by simp; omega
        by_cases hd7 : 7 < d
        · have e6 : decide (7 < d) = true := by simpa using hd7
          have CD := Lib.hid (fun W => isDivision_any d W false (decide_eq_false (by omega)))
          have hr0 : r = false := by rw [← hr]; exact decide_eq_false fun h => by have := h.1; omega
          subst hr0
          clear hr e3 e4 e5 hf h0 hd0 hd7
          go_enter Tryd.func106, Tryd.ntmps106
          go_wp2_with fail
          refine (C3.out _).mono ?_
          rintro e w' ⟨rfl, rfl⟩
          go_wp2_with fail
          refine (CD.out _).mono ?_
          rintro e w' ⟨rfl, rfl⟩
          go_wp2_with fail
          go_ret
          exact ⟨rfl, (Below.refl _ _).alloc (Nat.le_refl _) _⟩
        · have e6 : decide (7 < d) = false := by simp; omega
          have CD := Lib.hid (fun W => isDivision_any d W true (decide_eq_true (by omega)))
          obtain ⟨p6, e7⟩ : ∃ p, (s != f) = p := ⟨_, rfl⟩
          have hR : r = (p4 && (p5 && p6)) := by
            rw [← hr, ← e4, ← e5, ← e7]
            by_cases q4 : 0 ≤ l ∧ l ≤ 4
            · by_cases q5 : 1 ≤ s ∧ s ≤ 9
              · by_cases q6 : s = f
                · rw [decide_eq_false (p := FOk d l f s) (fun h => by rcases h.2.2.2 with h | h; exact h0 h.1; exact h.2.2 q6)]
                  simp [q6]
                · rw [decide_eq_true (p := FOk d l f s) ⟨by omega, q4, hf, .inr ⟨h0, q5, q6⟩⟩]
                  simp [q4, q5, q6]
              · rw [decide_eq_false (p := FOk d l f s) (fun h => by rcases h.2.2.2 with h | h; exact h0 h.1; exact q5 h.2.1), decide_eq_false q5]
                simp
            · rw [decide_eq_false (p := FOk d l f s) (fun h => q4 h.2.1), decide_eq_false q4]
              simp
          clear hr e3 e4 e5 hf h0 hd0 hd7
          subst hR
          cases p4
          · go_enter Tryd.func106, Tryd.ntmps106
            go_wp2_with fail
            refine (C3.out _).mono ?_
            rintro e w' ⟨rfl, rfl⟩
            go_wp2_with fail
            refine (CD.out _).mono ?_
            rintro e w' ⟨rfl, rfl⟩
            go_wp2_with fail
            refine (C4.out _).mono ?_
            rintro e w' ⟨rfl, rfl⟩
            go_wp2_with fail
            go_ret
            exact ⟨rfl, (Below.refl _ _).alloc (Nat.le_refl _) _⟩
          · cases p5
            all_goals
              go_enter Tryd.func106, Tryd.ntmps106
              go_wp2_with fail
              refine (C3.out _).mono ?_
              rintro e w' ⟨rfl, rfl⟩
              go_wp2_with fail
              refine (CD.out _).mono ?_
              rintro e w' ⟨rfl, rfl⟩
              go_wp2_with fail
              refine (C4.out _).mono ?_
              rintro e w' ⟨rfl, rfl⟩
              go_wp2_with fail
              refine (C5.out _).mono ?_
              rintro e w' ⟨rfl, rfl⟩
              go_wp2_with fail
              go_ret
              exact ⟨by first | rfl | simp, (Below.refl _ _).alloc (Nat.le_refl _) _⟩
end Go.Proofs.YthapidnjioindaaDoor
