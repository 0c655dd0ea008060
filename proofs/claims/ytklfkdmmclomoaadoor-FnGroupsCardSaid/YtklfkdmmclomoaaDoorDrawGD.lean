/- Contract: the draw of two groups. -/
import Derived.Test.YtklfkdmmclomoaaDoorDrawGroup
import Derived.Test.YtklfkdmmclomoaaDoorCset
namespace Go.Proofs.YtklfkdmmclomoaaDoor
open Go.RowKit

theorem sets_below' {w W : World} (h : Below w.heap.size w W) {b : Nat} (hb : w.heap.size ≤ b) (v0 v1 v2 v3 : Value) : Below w.heap.size w ((((W.setCell ⟨b, 0, none⟩ v0).setCell ⟨b, 1, none⟩ v1).setCell ⟨b, 2, none⟩ v2).setCell ⟨b, 3, none⟩ v3) :=
  h.grown (grown4 W b v0 v1 v2 v3) h.size (fun k hk => by cases hk; exact hb)
set_option maxHeartbeats 8000000 in
theorem drawGD_any (x : Option Addr) (n cap : Nat) (w : World) (h : RdB w w.heap.size x n) (hn : n ≤ 65536) :
    Calls Tryd.prog 25 #[.slice x n cap] w fun e w' => (∃ c k a t c' k' a' t' : Int, e = .returned (.tuple #[.agg #[.int .i64 c, .int .i64 k, .int .i64 a, .int .i64 t], .agg #[.int .i64 c', .int .i64 k', .int .i64 a', .int .i64 t']])) ∧ Below w.heap.size w w' := by
  have b0 := BoxF.new w [.int .i64 0, .int .i64 0, .int .i64 0, .int .i64 0] 25
  have c0 := BoxF.new (w.alloc (.cells #[.int .i64 0, .int .i64 0, .int .i64 0, .int .i64 0] 25 (0, 0))) [.int .i64 0, .int .i64 0, .int .i64 0, .int .i64 0] 25
  rw [World.size_alloc] at c0
  have hB0 : Below w.heap.size w ((w.alloc (.cells #[.int .i64 0, .int .i64 0, .int .i64 0, .int .i64 0] 25 (0, 0))).alloc (.cells #[.int .i64 0, .int .i64 0, .int .i64 0, .int .i64 0] 25 (0, 0))) := ((Below.refl _ w).alloc (Nat.le_refl _) _).alloc (by simp) _
  have hc := isCur_new cap (h.on hB0)
  simp only [World.size_alloc] at hc
  have HC0 := Lib.hid hc
  have X0 := Lib.hid ((b0.alloc (.cells #[.int .i64 0, .int .i64 0, .int .i64 0, .int .i64 0] 25 (0, 0))).alloc (.cells #[.slice x n cap, .int .i64 0, .int .u64 0] 72 (0, 0)))
  have Y0 := Lib.hid (c0.alloc (.cells #[.slice x n cap, .int .i64 0, .int .u64 0] 72 (0, 0)))
  have HB0 := Lib.hid (hB0.alloc (by first | (simp; done) | (simp; omega)) (.cells #[.slice x n cap, .int .i64 0, .int .u64 0] 72 (0, 0)))
  clear h hc b0 c0 hB0
  go_enter Tryd.func25, Tryd.ntmps25
  go_wp2_with fail
  refine (anyGroup_any (w.heap.size + 1 + 1) (w.heap.size + 1 + 1) x n cap 0 _ HC0.out (by omega) hn).mono ?_
  rintro e w1 ⟨⟨c, k, a, t, rfl⟩, hc1, hg1⟩
  have hz1 := hg1.size
  simp only [World.size_alloc] at hz1
  have X1 := Lib.hid (X0.out.kept hg1 (by first | (simp; done) | (simp; omega)))
  have Y1 := Lib.hid (Y0.out.kept hg1 (by first | (simp; done) | (simp; omega)))
  have HC1 := Lib.hid hc1
  have HB1 := Lib.hid (HB0.out.grown hg1 (by first | (simp; done) | (simp; omega)) (fun q hq => by cases hq; omega))
  have A1 := BoxF.new w1 [.int .i64 c, .int .i64 k, .int .i64 a, .int .i64 t] 25
  have E1 := BoxF.new (w1.alloc (.cells #[.int .i64 c, .int .i64 k, .int .i64 a, .int .i64 t] 25 (0, 0))) [.int .i64 c, .int .i64 k, .int .i64 a, .int .i64 t] 25
  rw [World.size_alloc] at E1
  have HA1 := Lib.hid A1
  have HE1 := Lib.hid E1
  clear hc1 hg1 HC0 X0 Y0 HB0 A1 E1
  go_wp2_with fail
  refine (pick_any (w.heap.size + 1 + 1) (w.heap.size + 1 + 1) x n cap _ _ ((HC1.out.alloc _).alloc _) (by omega) hn 5 (by omega) (by omega)).mono ?_
  rintro e w2 ⟨⟨r, rfl, hr0, hr1⟩, hc2, hg2⟩
  have hz2 := hg2.size
  simp only [World.size_alloc] at hz2
  have X2 := Lib.hid (((X1.out.alloc _).alloc _).kept hg2 (by first | (simp; done) | (simp; omega)))
  have Y2 := Lib.hid (((Y1.out.alloc _).alloc _).kept hg2 (by first | (simp; done) | (simp; omega)))
  have A2 := Lib.hid ((HA1.out.alloc _).kept hg2 (by first | (simp; done) | (simp; omega)))
  have E2 := Lib.hid (HE1.out.kept hg2 (by first | (simp; done) | (simp; omega)))
  have HC2 := Lib.hid hc2
  have HB2 := Lib.hid (((HB1.out.alloc (by omega) _).alloc (by first | (simp; done) | (simp; omega)) _).grown hg2 (by first | (simp; done) | (simp; omega)) (fun q hq => by cases hq; omega))
  clear hc2 hg2 HC1 X1 Y1 HA1 HE1 HB1
  have R1 : ∀ (W : World) i j v, (W.setCell ⟨w.heap.size, i, none⟩ v).cell? ⟨w.heap.size + 1, j, none⟩ = W.cell? ⟨w.heap.size + 1, j, none⟩ := fun W i j v => cset_b _ _ _ _ _ _ (by omega)
  have R2 : ∀ (W : World) i j v, (W.setCell ⟨w.heap.size + 1, i, none⟩ v).cell? ⟨w.heap.size, j, none⟩ = W.cell? ⟨w.heap.size, j, none⟩ := fun W i j v => cset_b _ _ _ _ _ _ (by omega)
  have R3 : ∀ (W : World) i j v, (W.setCell ⟨w.heap.size, i, none⟩ v).cell? ⟨w1.heap.size, j, none⟩ = W.cell? ⟨w1.heap.size, j, none⟩ := fun W i j v => cset_b _ _ _ _ _ _ (by omega)
  have R4 : ∀ (W : World) i j v, (W.setCell ⟨w.heap.size, i, none⟩ v).cell? ⟨w1.heap.size + 1, j, none⟩ = W.cell? ⟨w1.heap.size + 1, j, none⟩ := fun W i j v => cset_b _ _ _ _ _ _ (by omega)
  have R5 : ∀ (W : World) i j v, (W.setCell ⟨w.heap.size + 1, i, none⟩ v).cell? ⟨w1.heap.size, j, none⟩ = W.cell? ⟨w1.heap.size, j, none⟩ := fun W i j v => cset_b _ _ _ _ _ _ (by omega)
  have R6 : ∀ (W : World) i j v, (W.setCell ⟨w.heap.size + 1, i, none⟩ v).cell? ⟨w1.heap.size + 1, j, none⟩ = W.cell? ⟨w1.heap.size + 1, j, none⟩ := fun W i j v => cset_b _ _ _ _ _ _ (by omega)
  have RR := Lib.hid (And.intro R1 (And.intro R2 (And.intro R3 (And.intro R4 (And.intro R5 R6)))))
  clear R1 R2 R3 R4 R5 R6
  by_cases e0 : r = 0
  · have t0 : (r == 0) = true := by rw [beq_iff_eq]; exact e0
    clear e0 hr0 hr1
    go_wp2_with fail
    refine (anyGroup_any (w.heap.size + 1 + 1) (w.heap.size + 1 + 1) x n cap _ _ HC2.out (by omega) hn).mono ?_
    rintro e w3 ⟨⟨c', k', a', t', rfl⟩, hc3, hg3⟩
    have hz3 := hg3.size
    have E3 := E2.out.kept hg3 (by first | (simp; done) | (simp; omega))
    have gs := grown4 w3 (w1.heap.size + 1) (.int .i64 c') (.int .i64 k') (.int .i64 a') (.int .i64 t')
    have E4 := (((E3.set 0 (.int .i64 c')).set 1 (.int .i64 k')).set 2 (.int .i64 a')).set 3 (.int .i64 t')
    simp only [List.set_cons_succ, List.set_cons_zero] at E4
    have XX := Lib.hid ((X2.out.kept hg3 (by first | (simp; done) | (simp; omega))).kept gs (by first | (simp; done) | (simp; omega)))
    have YY := Lib.hid ((Y2.out.kept hg3 (by first | (simp; done) | (simp; omega))).kept gs (by first | (simp; done) | (simp; omega)))
    have AA := Lib.hid ((A2.out.kept hg3 (by first | (simp; done) | (simp; omega))).kept gs (by first | (simp; done) | (simp; omega)))
    have HB := Lib.hid ((HB2.out.grown hg3 (by omega) (fun q hq => by cases hq; omega)).grown gs (by omega) (fun q hq => by cases hq; omega))
    obtain ⟨m0, m1, m2, m3, mf⟩ := E3.four
    have EE := Lib.hid E4
    clear hc3 hg3 E3 gs E4 HC2 X2 Y2 A2 E2 HB2
    go_wp2_with fail
    clear m0 m1 m2 m3 mf
    generalize (((w3.setCell ⟨w1.heap.size + 1, 0, none⟩ (.int .i64 c')).setCell ⟨w1.heap.size + 1, 1, none⟩ (.int .i64 k')).setCell ⟨w1.heap.size + 1, 2, none⟩ (.int .i64 a')).setCell ⟨w1.heap.size + 1, 3, none⟩ (.int .i64 t') = W4 at *
    obtain ⟨x0, x1, x2, x3, xf⟩ := XX.out.four
    obtain ⟨y0, y1, y2, y3, yf⟩ := YY.out.four
    obtain ⟨a0, a1, a2, a3, af⟩ := AA.out.four
    obtain ⟨k0, k1, k2, k3, kf⟩ := EE.out.four
    obtain ⟨R1, R2, R3, R4, R5, R6⟩ := RR.out
    go_region
    all_goals
      go_wp2
      first
        | exact bodyPost_ret (v := .tuple #[.agg #[.int .i64 c, .int .i64 k, .int .i64 a, .int .i64 t], .agg #[.int .i64 c', .int .i64 k', .int .i64 a', .int .i64 t']]) (by simp [results, Tryd.results25, go_sem, x0, x1, x2, x3, y0, y1, y2, y3, R1, R2]) rfl ⟨⟨_, _, _, _, _, _, _, _, rfl⟩, (sets_below' (sets_below' HB.out (Nat.le_refl _) _ _ _ _) (Nat.le_succ _) _ _ _ _).drew⟩
        | exact bodyPost_ret (v := .tuple #[.agg #[.int .i64 c, .int .i64 k, .int .i64 a, .int .i64 t], .agg #[.int .i64 c', .int .i64 k', .int .i64 a', .int .i64 t']]) (by simp [results, Tryd.results25, go_sem, x0, x1, x2, x3, y0, y1, y2, y3, R1, R2]) rfl ⟨⟨_, _, _, _, _, _, _, _, rfl⟩, (sets_below' (sets_below' HB.out (Nat.le_succ _) _ _ _ _) (Nat.le_refl _) _ _ _ _).drew⟩
  · have t0 : (r == 0) = false := by rw [beq_eq_false_iff_ne]; exact e0
    by_cases e1 : r = 1
    · have t1 : (r == 1) = true := by rw [beq_iff_eq]; exact e1
      clear e0 e1 hr0 hr1
      go_wp2_with fail
      refine (pick_any (w.heap.size + 1 + 1) (w.heap.size + 1 + 1) x n cap _ _ HC2.out (by omega) hn 6 (by omega) (by omega)).mono ?_
      rintro e w3 ⟨⟨y, rfl, hy0, hy1⟩, hc3, hg3⟩
      have yw : IntKind.i64.wrap (1 + y) = 1 + y := IntWalk.i64_in _ (by omega)
      have hz3 := hg3.size
      have E3 := E2.out.kept hg3 (by first | (simp; done) | (simp; omega))
      have gs := grownBy_set w3 (w1.heap.size + 1) 0 (.int .i64 (1 + y))
      have E4 := E3.set 0 (.int .i64 (1 + y))
      simp only [List.set_cons_zero] at E4
      have XX := Lib.hid ((X2.out.kept hg3 (by first | (simp; done) | (simp; omega))).kept gs (by first | (simp; done) | (simp; omega)))
      have YY := Lib.hid ((Y2.out.kept hg3 (by first | (simp; done) | (simp; omega))).kept gs (by first | (simp; done) | (simp; omega)))
      have AA := Lib.hid ((A2.out.kept hg3 (by first | (simp; done) | (simp; omega))).kept gs (by first | (simp; done) | (simp; omega)))
      have HB := Lib.hid ((HB2.out.grown hg3 (by omega) (fun q hq => by cases hq; omega)).grown gs (by omega) (fun q hq => by cases hq; omega))
      obtain ⟨m0, m1, m2, m3, mf⟩ := E3.four
      have EE : Hid (BoxF _ _ [.int .i64 (1 + y), .int .i64 k, .int .i64 a, .int .i64 t] _) := Lib.hid E4
      clear hc3 hg3 E3 gs E4 HC2 X2 Y2 A2 E2 HB2
      go_wp2_with fail
      clear m0 m1 m2 m3 mf
      generalize w3.setCell ⟨w1.heap.size + 1, 0, none⟩ (.int .i64 (1 + y)) = W4 at *
      obtain ⟨x0, x1, x2, x3, xf⟩ := XX.out.four
      obtain ⟨y0, y1, y2, y3, yf⟩ := YY.out.four
      obtain ⟨a0, a1, a2, a3, af⟩ := AA.out.four
      obtain ⟨k0, k1, k2, k3, kf⟩ := EE.out.four
      obtain ⟨R1, R2, R3, R4, R5, R6⟩ := RR.out
      go_region
      all_goals
        go_wp2
        first
          | exact bodyPost_ret (v := .tuple #[.agg #[.int .i64 c, .int .i64 k, .int .i64 a, .int .i64 t], .agg #[.int .i64 (1 + y), .int .i64 k, .int .i64 a, .int .i64 t]]) (by simp [results, Tryd.results25, go_sem, x0, x1, x2, x3, y0, y1, y2, y3, R1, R2]) rfl ⟨⟨_, _, _, _, _, _, _, _, rfl⟩, (sets_below' (sets_below' HB.out (Nat.le_refl _) _ _ _ _) (Nat.le_succ _) _ _ _ _).drew⟩
          | exact bodyPost_ret (v := .tuple #[.agg #[.int .i64 c, .int .i64 k, .int .i64 a, .int .i64 t], .agg #[.int .i64 (1 + y), .int .i64 k, .int .i64 a, .int .i64 t]]) (by simp [results, Tryd.results25, go_sem, x0, x1, x2, x3, y0, y1, y2, y3, R1, R2]) rfl ⟨⟨_, _, _, _, _, _, _, _, rfl⟩, (sets_below' (sets_below' HB.out (Nat.le_succ _) _ _ _ _) (Nat.le_refl _) _ _ _ _).drew⟩
    · have t1 : (r == 1) = false := by rw [beq_eq_false_iff_ne]; exact e1
      by_cases e2 : r = 2
      · have t2 : (r == 2) = true := by rw [beq_iff_eq]; exact e2
        clear e0 e1 e2 hr0 hr1
        go_wp2_with fail
        refine (tincture_any (w.heap.size + 1 + 1) (w.heap.size + 1 + 1) x n cap _ _ HC2.out (by omega) hn).mono ?_
        rintro e w3 ⟨⟨y, rfl, _⟩, hc3, hg3⟩
        have hz3 := hg3.size
        have E3 := E2.out.kept hg3 (by first | (simp; done) | (simp; omega))
        have gs := grownBy_set w3 (w1.heap.size + 1) 3 (.int .i64 y)
        have E4 := E3.set 3 (.int .i64 y)
        simp only [List.set_cons_succ, List.set_cons_zero] at E4
        have XX := Lib.hid ((X2.out.kept hg3 (by first | (simp; done) | (simp; omega))).kept gs (by first | (simp; done) | (simp; omega)))
        have YY := Lib.hid ((Y2.out.kept hg3 (by first | (simp; done) | (simp; omega))).kept gs (by first | (simp; done) | (simp; omega)))
        have AA := Lib.hid ((A2.out.kept hg3 (by first | (simp; done) | (simp; omega))).kept gs (by first | (simp; done) | (simp; omega)))
        have HB := Lib.hid ((HB2.out.grown hg3 (by omega) (fun q hq => by cases hq; omega)).grown gs (by omega) (fun q hq => by cases hq; omega))
        obtain ⟨m0, m1, m2, m3, mf⟩ := E3.four
        have EE : Hid (BoxF _ _ [.int .i64 c, .int .i64 k, .int .i64 a, .int .i64 y] _) := Lib.hid E4
        clear hc3 hg3 E3 gs E4 HC2 X2 Y2 A2 E2 HB2
        go_wp2_with fail
        clear m0 m1 m2 m3 mf
        generalize w3.setCell ⟨w1.heap.size + 1, 3, none⟩ (.int .i64 y) = W4 at *
        obtain ⟨x0, x1, x2, x3, xf⟩ := XX.out.four
        obtain ⟨y0, y1, y2, y3, yf⟩ := YY.out.four
        obtain ⟨a0, a1, a2, a3, af⟩ := AA.out.four
        obtain ⟨k0, k1, k2, k3, kf⟩ := EE.out.four
        obtain ⟨R1, R2, R3, R4, R5, R6⟩ := RR.out
        go_region
        all_goals
          go_wp2
          first
            | exact bodyPost_ret (v := .tuple #[.agg #[.int .i64 c, .int .i64 k, .int .i64 a, .int .i64 t], .agg #[.int .i64 c, .int .i64 k, .int .i64 a, .int .i64 y]]) (by simp [results, Tryd.results25, go_sem, x0, x1, x2, x3, y0, y1, y2, y3, R1, R2]) rfl ⟨⟨_, _, _, _, _, _, _, _, rfl⟩, (sets_below' (sets_below' HB.out (Nat.le_refl _) _ _ _ _) (Nat.le_succ _) _ _ _ _).drew⟩
            | exact bodyPost_ret (v := .tuple #[.agg #[.int .i64 c, .int .i64 k, .int .i64 a, .int .i64 t], .agg #[.int .i64 c, .int .i64 k, .int .i64 a, .int .i64 y]]) (by simp [results, Tryd.results25, go_sem, x0, x1, x2, x3, y0, y1, y2, y3, R1, R2]) rfl ⟨⟨_, _, _, _, _, _, _, _, rfl⟩, (sets_below' (sets_below' HB.out (Nat.le_succ _) _ _ _ _) (Nat.le_refl _) _ _ _ _).drew⟩
      · have t2 : (r == 2) = false := by rw [beq_eq_false_iff_ne]; exact e2
        by_cases e3 : r = 3
        · have t3 : (r == 3) = true := by rw [beq_iff_eq]; exact e3
          clear e0 e1 e2 e3 hr0 hr1
          go_wp2_with fail
          refine (pick_any (w.heap.size + 1 + 1) (w.heap.size + 1 + 1) x n cap _ _ HC2.out (by omega) hn 3 (by omega) (by omega)).mono ?_
          rintro e w3 ⟨⟨y, rfl, _⟩, hc3, hg3⟩
          have hz3 := hg3.size
          have E3 := E2.out.kept hg3 (by first | (simp; done) | (simp; omega))
          have gs := grownBy_set w3 (w1.heap.size + 1) 2 (.int .i64 y)
          have E4 := E3.set 2 (.int .i64 y)
          simp only [List.set_cons_succ, List.set_cons_zero] at E4
          have XX := Lib.hid ((X2.out.kept hg3 (by first | (simp; done) | (simp; omega))).kept gs (by first | (simp; done) | (simp; omega)))
          have YY := Lib.hid ((Y2.out.kept hg3 (by first | (simp; done) | (simp; omega))).kept gs (by first | (simp; done) | (simp; omega)))
          have AA := Lib.hid ((A2.out.kept hg3 (by first | (simp; done) | (simp; omega))).kept gs (by first | (simp; done) | (simp; omega)))
          have HB := Lib.hid ((HB2.out.grown hg3 (by omega) (fun q hq => by cases hq; omega)).grown gs (by omega) (fun q hq => by cases hq; omega))
          obtain ⟨m0, m1, m2, m3, mf⟩ := E3.four
          have EE : Hid (BoxF _ _ [.int .i64 c, .int .i64 k, .int .i64 y, .int .i64 t] _) := Lib.hid E4
          clear hc3 hg3 E3 gs E4 HC2 X2 Y2 A2 E2 HB2
          go_wp2_with fail
          clear m0 m1 m2 m3 mf
          generalize w3.setCell ⟨w1.heap.size + 1, 2, none⟩ (.int .i64 y) = W4 at *
          obtain ⟨x0, x1, x2, x3, xf⟩ := XX.out.four
          obtain ⟨y0, y1, y2, y3, yf⟩ := YY.out.four
          obtain ⟨a0, a1, a2, a3, af⟩ := AA.out.four
          obtain ⟨k0, k1, k2, k3, kf⟩ := EE.out.four
          obtain ⟨R1, R2, R3, R4, R5, R6⟩ := RR.out
          go_region
          all_goals
            go_wp2
            first
              | exact bodyPost_ret (v := .tuple #[.agg #[.int .i64 c, .int .i64 k, .int .i64 a, .int .i64 t], .agg #[.int .i64 c, .int .i64 k, .int .i64 y, .int .i64 t]]) (by simp [results, Tryd.results25, go_sem, x0, x1, x2, x3, y0, y1, y2, y3, R1, R2]) rfl ⟨⟨_, _, _, _, _, _, _, _, rfl⟩, (sets_below' (sets_below' HB.out (Nat.le_refl _) _ _ _ _) (Nat.le_succ _) _ _ _ _).drew⟩
              | exact bodyPost_ret (v := .tuple #[.agg #[.int .i64 c, .int .i64 k, .int .i64 a, .int .i64 t], .agg #[.int .i64 c, .int .i64 k, .int .i64 y, .int .i64 t]]) (by simp [results, Tryd.results25, go_sem, x0, x1, x2, x3, y0, y1, y2, y3, R1, R2]) rfl ⟨⟨_, _, _, _, _, _, _, _, rfl⟩, (sets_below' (sets_below' HB.out (Nat.le_succ _) _ _ _ _) (Nat.le_refl _) _ _ _ _).drew⟩
        · have t3 : (r == 3) = false := by rw [beq_eq_false_iff_ne]; exact e3
          clear e0 e1 e2 e3 hr0 hr1
          have XX := X2
          have YY := Y2
          have AA := A2
          have EE := E2
          have HB := HB2
          clear X2 Y2 A2 E2 HB2 HC2
          go_wp2_with fail
          obtain ⟨x0, x1, x2, x3, xf⟩ := XX.out.four
          obtain ⟨y0, y1, y2, y3, yf⟩ := YY.out.four
          obtain ⟨a0, a1, a2, a3, af⟩ := AA.out.four
          obtain ⟨k0, k1, k2, k3, kf⟩ := EE.out.four
          obtain ⟨R1, R2, R3, R4, R5, R6⟩ := RR.out
          go_region
          all_goals
            go_wp2
            first
              | exact bodyPost_ret (v := .tuple #[.agg #[.int .i64 c, .int .i64 k, .int .i64 a, .int .i64 t], .agg #[.int .i64 c, .int .i64 k, .int .i64 a, .int .i64 t]]) (by simp [results, Tryd.results25, go_sem, x0, x1, x2, x3, y0, y1, y2, y3, R1, R2]) rfl ⟨⟨_, _, _, _, _, _, _, _, rfl⟩, (sets_below' (sets_below' HB.out (Nat.le_refl _) _ _ _ _) (Nat.le_succ _) _ _ _ _).drew⟩
              | exact bodyPost_ret (v := .tuple #[.agg #[.int .i64 c, .int .i64 k, .int .i64 a, .int .i64 t], .agg #[.int .i64 c, .int .i64 k, .int .i64 a, .int .i64 t]]) (by simp [results, Tryd.results25, go_sem, x0, x1, x2, x3, y0, y1, y2, y3, R1, R2]) rfl ⟨⟨_, _, _, _, _, _, _, _, rfl⟩, (sets_below' (sets_below' HB.out (Nat.le_succ _) _ _ _ _) (Nat.le_refl _) _ _ _ _).drew⟩
end Go.Proofs.YtklfkdmmclomoaaDoor
