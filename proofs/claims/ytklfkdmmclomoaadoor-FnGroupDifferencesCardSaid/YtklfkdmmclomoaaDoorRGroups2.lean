/- Contracts: the program's groups that may stand, and its numbers of differences. -/
import Derived.Test.YtklfkdmmclomoaaDoorRGroups
import Derived.Test.YtklfkdmmclomoaaDoorGroups3
import Derived.Test.YtklfkdmmclomoaaDoorEqAgg
namespace Go.Proofs.YtklfkdmmclomoaaDoor
open Go.RowKit

theorem gNo_out {c k a t : Int} (h : gNoB c k a t = true) : c = 0 ∧ k = 0 ∧ a = 0 ∧ t = 0 := by simpa [gNoB] using h
theorem gNo_not {c k a t : Int} (h : gNoB c k a t = false) : ¬ (c = 0 ∧ k = 0 ∧ a = 0 ∧ t = 0) := by simpa [gNoB] using h
set_option maxRecDepth 100000 in
set_option maxHeartbeats 4000000 in
theorem groupOrNone_impl (c k a t : Int) (w : World) (r : Bool) (hr : gAnyB c k a t = r) (hA : AttsLie w) :
    Calls Tryd.prog 65 #[.agg #[.int .i64 c, .int .i64 k, .int .i64 a, .int .i64 t]] w fun e w' => e = .returned (.bool r) ∧ Below w.heap.size w w' := by
  unfold gAnyB at hr
  rcases Bool.eq_false_or_eq_true (gNoB c k a t) with h0 | h0
  · rw [h0, Bool.true_or] at hr
    subst hr
    obtain ⟨rfl, rfl, rfl, rfl⟩ := gNo_out h0
    clear hA h0
    go_enter Tryd.func65, Tryd.ntmps65
    go_wp2_with fail
    go_ret
    exact ⟨rfl, (Below.refl _ _).alloc (Nat.le_refl _) _⟩
  · rw [h0, Bool.false_or] at hr
    have NE := gNo_not h0
    have CV := Lib.hid (fun W (hb : Below w.heap.size w W) => validGroup_impl c k a t W r hr (hA.below hb))
    clear hA hr h0
    by_cases hc : c = 0
    · subst hc
      by_cases hk : k = 0
      · subst hk
        by_cases ha : a = 0
        · subst ha
          have ht : ¬ t = 0 := fun h => NE ⟨rfl, rfl, rfl, h⟩
          clear NE
          go_enter Tryd.func65, Tryd.ntmps65
          go_wp2_with (go_at_call 19; (with_reducible refine (CV.out _ ((Below.refl _ w).alloc (Nat.le_refl _) _)).mono ?_); rintro e w1 ⟨rfl, h1⟩)
          go_ret
          exact ⟨rfl, ((Below.refl _ w).alloc (Nat.le_refl _) _).trans (h1.mono (by simp))⟩
        · clear NE
          go_enter Tryd.func65, Tryd.ntmps65
          go_wp2_with (go_at_call 19; (with_reducible refine (CV.out _ ((Below.refl _ w).alloc (Nat.le_refl _) _)).mono ?_); rintro e w1 ⟨rfl, h1⟩)
          go_ret
          exact ⟨rfl, ((Below.refl _ w).alloc (Nat.le_refl _) _).trans (h1.mono (by simp))⟩
      · clear NE
        go_enter Tryd.func65, Tryd.ntmps65
        go_wp2_with (go_at_call 19; (with_reducible refine (CV.out _ ((Below.refl _ w).alloc (Nat.le_refl _) _)).mono ?_); rintro e w1 ⟨rfl, h1⟩)
        go_ret
        exact ⟨rfl, ((Below.refl _ w).alloc (Nat.le_refl _) _).trans (h1.mono (by simp))⟩
    · clear NE
      go_enter Tryd.func65, Tryd.ntmps65
      go_wp2_with (go_at_call 19; (with_reducible refine (CV.out _ ((Below.refl _ w).alloc (Nat.le_refl _) _)).mono ?_); rintro e w1 ⟨rfl, h1⟩)
      go_ret
      exact ⟨rfl, ((Below.refl _ w).alloc (Nat.le_refl _) _).trans (h1.mono (by simp))⟩
theorem gdif_eq (c k a t c' k' a' t' : Int) (p0 z1 z2 p1 p2 p3 p4 : Bool) (h0 : decide (c = c' ∧ k = k' ∧ a = a' ∧ t = t') = p0) (hz1 : decide (c = 0 ∧ k = 0 ∧ a = 0 ∧ t = 0) = z1) (hz2 : decide (c' = 0 ∧ k' = 0 ∧ a' = 0 ∧ t' = 0) = z2)
    (e1 : (c != c') = p1) (e2 : (k != k') = p2) (e3 : (a != a') = p3) (e4 : (t != t') = p4) :
    gdif c k a t c' k' a' t' = if p0 = true then 0 else if (z1 || z2) = true then 2 else (if p1 = true then 1 else 0) + (if p2 = true then 2 else (if p3 = true then 1 else 0)) + (if p4 = true then 1 else 0) := by
  have hR : gdif c k a t c' k' a' t' = if z1 = z2 then (if p1 = true then 1 else 0) + (if p2 = true then 2 else (if p3 = true then 1 else 0)) + (if p4 = true then 1 else 0) else 2 := by
    unfold gdif gNoB
    rw [hz1, hz2, ← e1, ← e2, ← e3, ← e4]
    by_cases q1 : c = c' <;> by_cases q2 : k = k' <;> by_cases q3 : a = a' <;> by_cases q4 : t = t' <;> simp [q1, q2, q3, q4]
  rw [hR]
  cases p0
  · cases z1 <;> cases z2 <;> try rfl
    have u1 := of_decide_eq_true hz1
    have u2 := of_decide_eq_true hz2
    have u0 := of_decide_eq_false h0
    exact absurd ⟨u1.1.trans u2.1.symm, u1.2.1.trans u2.2.1.symm, u1.2.2.1.trans u2.2.2.1.symm, u1.2.2.2.trans u2.2.2.2.symm⟩ u0
  · obtain ⟨rfl, rfl, rfl, rfl⟩ := of_decide_eq_true h0
    rw [if_pos (hz1.symm.trans hz2), ← e1, ← e2, ← e3, ← e4]
    simp
theorem gdif_comm (c k a t c' k' a' t' : Int) : gdif c k a t c' k' a' t' = gdif c' k' a' t' c k a t := by
  unfold gdif
  simp only [@eq_comm Bool (gNoB c k a t) (gNoB c' k' a' t'), @eq_comm Int c c', @eq_comm Int k k', @eq_comm Int a a', @eq_comm Int t t']
theorem gdif_zero (c k a t c' k' a' t' : Int) : (gdif c k a t c' k' a' t' == 0) = decide (c = c' ∧ k = k' ∧ a = a' ∧ t = t') := by
  obtain ⟨p0, h0⟩ : ∃ n, decide (c = c' ∧ k = k' ∧ a = a' ∧ t = t') = n := ⟨_, rfl⟩
  rw [gdif_eq c k a t c' k' a' t' p0 _ _ _ _ _ _ h0 rfl rfl rfl rfl rfl rfl, h0]
  cases p0
  · have hn := of_decide_eq_false h0
    rw [if_neg (by simp)]
    split
    · rfl
    · by_cases q1 : c = c' <;> by_cases q2 : k = k' <;> by_cases q3 : a = a' <;> by_cases q4 : t = t' <;> simp_all
  · rw [if_pos rfl]; rfl
set_option maxHeartbeats 8000000 in
theorem groupDiff_impl (c k a t c' k' a' t' : Int) (w : World) (r : Bool) (hr : (gAnyB c k a t && gAnyB c' k' a' t') = r) (hA : AttsLie w) :
    Calls Tryd.prog 26 #[.agg #[.int .i64 c, .int .i64 k, .int .i64 a, .int .i64 t], .agg #[.int .i64 c', .int .i64 k', .int .i64 a', .int .i64 t']] w fun e w' => e = .returned (.tuple #[.int .i64 (if r = true then gdif c k a t c' k' a' t' else 0), .bool r]) ∧ Below w.heap.size w w' := by
  obtain ⟨n1, h1⟩ : ∃ n, gAnyB c k a t = n := ⟨_, rfl⟩
  obtain ⟨n2, h2⟩ : ∃ n, gAnyB c' k' a' t' = n := ⟨_, rfl⟩
  have K1 := Lib.hid (fun W (hb : Below w.heap.size w W) => groupOrNone_impl c k a t W n1 h1 (hA.below hb))
  have K2 := Lib.hid (fun W (hb : Below w.heap.size w W) => groupOrNone_impl c' k' a' t' W n2 h2 (hA.below hb))
  obtain ⟨p0, h0⟩ : ∃ n, decide (c = c' ∧ k = k' ∧ a = a' ∧ t = t') = n := ⟨_, rfl⟩
  obtain ⟨z1, hz1⟩ : ∃ n, decide (c = 0 ∧ k = 0 ∧ a = 0 ∧ t = 0) = n := ⟨_, rfl⟩
  obtain ⟨z2, hz2⟩ : ∃ n, decide (c' = 0 ∧ k' = 0 ∧ a' = 0 ∧ t' = 0) = n := ⟨_, rfl⟩
  obtain ⟨p1, e1⟩ : ∃ p, (c != c') = p := ⟨_, rfl⟩
  obtain ⟨p2, e2⟩ : ∃ p, (k != k') = p := ⟨_, rfl⟩
  obtain ⟨p3, e3⟩ : ∃ p, (a != a') = p := ⟨_, rfl⟩
  obtain ⟨p4, e4⟩ : ∃ p, (t != t') = p := ⟨_, rfl⟩
  rw [gdif_eq c k a t c' k' a' t' p0 z1 z2 p1 p2 p3 p4 h0 hz1 hz2 e1 e2 e3 e4]
  have Q := Lib.hid (And.intro (fun W => h0 ▸ eqGroup_run c k a t c' k' a' t' W) (And.intro (fun W => hz1 ▸ eqGroup_run c k a t 0 0 0 0 W) (fun W => hz2 ▸ eqGroup_run c' k' a' t' 0 0 0 0 W)))
  rw [h1, h2] at hr
  clear h1 h2 h0 hz1 hz2 hA
  cases n1
  · obtain rfl : false = r := hr
    clear Q
    go_enter Tryd.func26, Tryd.ntmps26
    go_wp2_with fail
    refine (K1.out _ ((((Below.refl _ w).alloc (Nat.le_refl _) _).alloc (by simp) _))).mono ?_
    rintro e w1 ⟨rfl, h1⟩
    have X1 := ((Box.new w [.int .i64 c, .int .i64 k, .int .i64 a, .int .i64 t] 25).alloc (.cells #[.int .i64 c', .int .i64 k', .int .i64 a', .int .i64 t'] 25 (0, 0))).below h1
    have Y1 := (Box.new (w.alloc (.cells #[.int .i64 c, .int .i64 k, .int .i64 a, .int .i64 t] 25 (0, 0))) [.int .i64 c', .int .i64 k', .int .i64 a', .int .i64 t'] 25).below h1
    simp only [World.size_alloc] at Y1
    have HB1 := Lib.hid (box2 h1)
    have x0 := X1.2 0 _ rfl
    have x1 := X1.2 1 _ rfl
    have x2 := X1.2 2 _ rfl
    have x3 := X1.2 3 _ rfl
    have y0 := Y1.2 0 _ rfl
    have y1 := Y1.2 1 _ rfl
    have y2 := Y1.2 2 _ rfl
    have y3 := Y1.2 3 _ rfl
    have HX1 := Lib.hid X1
    have HY1 := Lib.hid Y1
    clear X1 Y1 h1
    go_wp2_with fail
    go_ret2
    exact ⟨rfl, HB1.out⟩
  · cases n2
    · obtain rfl : false = r := hr
      clear Q
      go_enter Tryd.func26, Tryd.ntmps26
      go_wp2_with fail
      refine (K1.out _ ((((Below.refl _ w).alloc (Nat.le_refl _) _).alloc (by simp) _))).mono ?_
      rintro e w1 ⟨rfl, h1⟩
      have X1 := ((Box.new w [.int .i64 c, .int .i64 k, .int .i64 a, .int .i64 t] 25).alloc (.cells #[.int .i64 c', .int .i64 k', .int .i64 a', .int .i64 t'] 25 (0, 0))).below h1
      have Y1 := (Box.new (w.alloc (.cells #[.int .i64 c, .int .i64 k, .int .i64 a, .int .i64 t] 25 (0, 0))) [.int .i64 c', .int .i64 k', .int .i64 a', .int .i64 t'] 25).below h1
      simp only [World.size_alloc] at Y1
      have HB1 := Lib.hid (box2 h1)
      have x0 := X1.2 0 _ rfl
      have x1 := X1.2 1 _ rfl
      have x2 := X1.2 2 _ rfl
      have x3 := X1.2 3 _ rfl
      have y0 := Y1.2 0 _ rfl
      have y1 := Y1.2 1 _ rfl
      have y2 := Y1.2 2 _ rfl
      have y3 := Y1.2 3 _ rfl
      have HX1 := Lib.hid X1
      have HY1 := Lib.hid Y1
      clear X1 Y1 h1
      go_wp2_with fail
      refine (K2.out _ HB1.out).mono ?_
      clear x0 x1 x2 x3 y0 y1 y2 y3
      rintro e w2 ⟨rfl, h2⟩
      have HB2 := Lib.hid (HB1.out.trans (h2.mono HB1.out.size))
      clear h2
      go_wp2_with fail
      go_ret2
      exact ⟨rfl, HB2.out⟩
    · obtain rfl : true = r := hr
      cases p0
      · cases z1
        · cases z2
          · skip
            go_enter Tryd.func26, Tryd.ntmps26
            go_wp2_with fail
            refine (K1.out _ ((((Below.refl _ w).alloc (Nat.le_refl _) _).alloc (by simp) _))).mono ?_
            rintro e w1 ⟨rfl, h1⟩
            have X1 := ((Box.new w [.int .i64 c, .int .i64 k, .int .i64 a, .int .i64 t] 25).alloc (.cells #[.int .i64 c', .int .i64 k', .int .i64 a', .int .i64 t'] 25 (0, 0))).below h1
            have Y1 := (Box.new (w.alloc (.cells #[.int .i64 c, .int .i64 k, .int .i64 a, .int .i64 t] 25 (0, 0))) [.int .i64 c', .int .i64 k', .int .i64 a', .int .i64 t'] 25).below h1
            simp only [World.size_alloc] at Y1
            have HB1 := Lib.hid (box2 h1)
            have x0 := X1.2 0 _ rfl
            have x1 := X1.2 1 _ rfl
            have x2 := X1.2 2 _ rfl
            have x3 := X1.2 3 _ rfl
            have y0 := Y1.2 0 _ rfl
            have y1 := Y1.2 1 _ rfl
            have y2 := Y1.2 2 _ rfl
            have y3 := Y1.2 3 _ rfl
            have HX1 := Lib.hid X1
            have HY1 := Lib.hid Y1
            clear X1 Y1 h1
            go_wp2_with fail
            refine (K2.out _ HB1.out).mono ?_
            clear x0 x1 x2 x3 y0 y1 y2 y3
            rintro e w2 ⟨rfl, h2⟩
            have X2 := HX1.out.below h2
            have Y2 := HY1.out.below h2
            have HB2 := Lib.hid (HB1.out.trans (h2.mono HB1.out.size))
            have x0 := X2.2 0 _ rfl
            have x1 := X2.2 1 _ rfl
            have x2 := X2.2 2 _ rfl
            have x3 := X2.2 3 _ rfl
            have y0 := Y2.2 0 _ rfl
            have y1 := Y2.2 1 _ rfl
            have y2 := Y2.2 2 _ rfl
            have y3 := Y2.2 3 _ rfl
            clear X2 Y2 h2 HX1 HY1 HB1
            obtain ⟨q1, q2, q3⟩ := Q.out
            go_wp2_with fail
            all_goals
              go_ret2
              refine ⟨?_, HB2.out⟩
              clear Q HB2 q1 q2 q3 x0 x1 x2 x3 y0 y1 y2 y3
              cases p1 <;> cases p2 <;> cases p3 <;> cases p4 <;> first | rfl | contradiction | simp_all
          · skip
            go_enter Tryd.func26, Tryd.ntmps26
            go_wp2_with fail
            refine (K1.out _ ((((Below.refl _ w).alloc (Nat.le_refl _) _).alloc (by simp) _))).mono ?_
            rintro e w1 ⟨rfl, h1⟩
            have X1 := ((Box.new w [.int .i64 c, .int .i64 k, .int .i64 a, .int .i64 t] 25).alloc (.cells #[.int .i64 c', .int .i64 k', .int .i64 a', .int .i64 t'] 25 (0, 0))).below h1
            have Y1 := (Box.new (w.alloc (.cells #[.int .i64 c, .int .i64 k, .int .i64 a, .int .i64 t] 25 (0, 0))) [.int .i64 c', .int .i64 k', .int .i64 a', .int .i64 t'] 25).below h1
            simp only [World.size_alloc] at Y1
            have HB1 := Lib.hid (box2 h1)
            have x0 := X1.2 0 _ rfl
            have x1 := X1.2 1 _ rfl
            have x2 := X1.2 2 _ rfl
            have x3 := X1.2 3 _ rfl
            have y0 := Y1.2 0 _ rfl
            have y1 := Y1.2 1 _ rfl
            have y2 := Y1.2 2 _ rfl
            have y3 := Y1.2 3 _ rfl
            have HX1 := Lib.hid X1
            have HY1 := Lib.hid Y1
            clear X1 Y1 h1
            go_wp2_with fail
            refine (K2.out _ HB1.out).mono ?_
            clear x0 x1 x2 x3 y0 y1 y2 y3
            rintro e w2 ⟨rfl, h2⟩
            have X2 := HX1.out.below h2
            have Y2 := HY1.out.below h2
            have HB2 := Lib.hid (HB1.out.trans (h2.mono HB1.out.size))
            have x0 := X2.2 0 _ rfl
            have x1 := X2.2 1 _ rfl
            have x2 := X2.2 2 _ rfl
            have x3 := X2.2 3 _ rfl
            have y0 := Y2.2 0 _ rfl
            have y1 := Y2.2 1 _ rfl
            have y2 := Y2.2 2 _ rfl
            have y3 := Y2.2 3 _ rfl
            clear X2 Y2 h2 HX1 HY1 HB1
            obtain ⟨q1, q2, q3⟩ := Q.out
            go_wp2_with fail
            all_goals
              go_ret2
              refine ⟨?_, HB2.out⟩
              clear Q HB2 q1 q2 q3 x0 x1 x2 x3 y0 y1 y2 y3
              cases p1 <;> cases p2 <;> cases p3 <;> cases p4 <;> first | rfl | contradiction | simp_all
        · skip
          go_enter Tryd.func26, Tryd.ntmps26
          go_wp2_with fail
          refine (K1.out _ ((((Below.refl _ w).alloc (Nat.le_refl _) _).alloc (by simp) _))).mono ?_
          rintro e w1 ⟨rfl, h1⟩
          have X1 := ((Box.new w [.int .i64 c, .int .i64 k, .int .i64 a, .int .i64 t] 25).alloc (.cells #[.int .i64 c', .int .i64 k', .int .i64 a', .int .i64 t'] 25 (0, 0))).below h1
          have Y1 := (Box.new (w.alloc (.cells #[.int .i64 c, .int .i64 k, .int .i64 a, .int .i64 t] 25 (0, 0))) [.int .i64 c', .int .i64 k', .int .i64 a', .int .i64 t'] 25).below h1
          simp only [World.size_alloc] at Y1
          have HB1 := Lib.hid (box2 h1)
          have x0 := X1.2 0 _ rfl
          have x1 := X1.2 1 _ rfl
          have x2 := X1.2 2 _ rfl
          have x3 := X1.2 3 _ rfl
          have y0 := Y1.2 0 _ rfl
          have y1 := Y1.2 1 _ rfl
          have y2 := Y1.2 2 _ rfl
          have y3 := Y1.2 3 _ rfl
          have HX1 := Lib.hid X1
          have HY1 := Lib.hid Y1
          clear X1 Y1 h1
          go_wp2_with fail
          refine (K2.out _ HB1.out).mono ?_
          clear x0 x1 x2 x3 y0 y1 y2 y3
          rintro e w2 ⟨rfl, h2⟩
          have X2 := HX1.out.below h2
          have Y2 := HY1.out.below h2
          have HB2 := Lib.hid (HB1.out.trans (h2.mono HB1.out.size))
          have x0 := X2.2 0 _ rfl
          have x1 := X2.2 1 _ rfl
          have x2 := X2.2 2 _ rfl
          have x3 := X2.2 3 _ rfl
          have y0 := Y2.2 0 _ rfl
          have y1 := Y2.2 1 _ rfl
          have y2 := Y2.2 2 _ rfl
          have y3 := Y2.2 3 _ rfl
          clear X2 Y2 h2 HX1 HY1 HB1
          obtain ⟨q1, q2, q3⟩ := Q.out
          go_wp2_with fail
          all_goals
            go_ret2
            refine ⟨?_, HB2.out⟩
            clear Q HB2 q1 q2 q3 x0 x1 x2 x3 y0 y1 y2 y3
            cases p1 <;> cases p2 <;> cases p3 <;> cases p4 <;> first | rfl | contradiction | simp_all
      · skip
        go_enter Tryd.func26, Tryd.ntmps26
        go_wp2_with fail
        refine (K1.out _ ((((Below.refl _ w).alloc (Nat.le_refl _) _).alloc (by simp) _))).mono ?_
        rintro e w1 ⟨rfl, h1⟩
        have X1 := ((Box.new w [.int .i64 c, .int .i64 k, .int .i64 a, .int .i64 t] 25).alloc (.cells #[.int .i64 c', .int .i64 k', .int .i64 a', .int .i64 t'] 25 (0, 0))).below h1
        have Y1 := (Box.new (w.alloc (.cells #[.int .i64 c, .int .i64 k, .int .i64 a, .int .i64 t] 25 (0, 0))) [.int .i64 c', .int .i64 k', .int .i64 a', .int .i64 t'] 25).below h1
        simp only [World.size_alloc] at Y1
        have HB1 := Lib.hid (box2 h1)
        have x0 := X1.2 0 _ rfl
        have x1 := X1.2 1 _ rfl
        have x2 := X1.2 2 _ rfl
        have x3 := X1.2 3 _ rfl
        have y0 := Y1.2 0 _ rfl
        have y1 := Y1.2 1 _ rfl
        have y2 := Y1.2 2 _ rfl
        have y3 := Y1.2 3 _ rfl
        have HX1 := Lib.hid X1
        have HY1 := Lib.hid Y1
        clear X1 Y1 h1
        go_wp2_with fail
        refine (K2.out _ HB1.out).mono ?_
        clear x0 x1 x2 x3 y0 y1 y2 y3
        rintro e w2 ⟨rfl, h2⟩
        have X2 := HX1.out.below h2
        have Y2 := HY1.out.below h2
        have HB2 := Lib.hid (HB1.out.trans (h2.mono HB1.out.size))
        have x0 := X2.2 0 _ rfl
        have x1 := X2.2 1 _ rfl
        have x2 := X2.2 2 _ rfl
        have x3 := X2.2 3 _ rfl
        have y0 := Y2.2 0 _ rfl
        have y1 := Y2.2 1 _ rfl
        have y2 := Y2.2 2 _ rfl
        have y3 := Y2.2 3 _ rfl
        clear X2 Y2 h2 HX1 HY1 HB1
        obtain ⟨q1, q2, q3⟩ := Q.out
        go_wp2_with fail
        all_goals
          go_ret2
          refine ⟨?_, HB2.out⟩
          clear Q HB2 q1 q2 q3 x0 x1 x2 x3 y0 y1 y2 y3
          cases p1 <;> cases p2 <;> cases p3 <;> cases p4 <;> first | rfl | contradiction | simp_all
end Go.Proofs.YtklfkdmmclomoaaDoor
