/- Contracts: the model's JoinGroups. -/
import Derived.Test.YtklfkdmmclomoaaDoorGroups
import Derived.Test.YtklfkdmmclomoaaDoorDrawField
import Derived.IntWalk
namespace Go.Proofs.YtklfkdmmclomoaaDoor
open Go.RowKit

/-- Two groups can be joined. -/
def gJoinB (c k a t c' k' a' t' : Int) : Bool := gOkB c k a t && (gOkB c' k' a' t' && (decide (k = k') && (decide (a = a') && (decide (t = t') && gOkB (c + c') k a t))))
set_option maxHeartbeats 8000000 in
theorem join_spec (c k a t c' k' a' t' : Int) (w : World) (r : Bool) (hr : gJoinB c k a t c' k' a' t' = r) :
    Calls Tryd.prog 24 #[.agg #[.int .i64 c, .int .i64 k, .int .i64 a, .int .i64 t], .agg #[.int .i64 c', .int .i64 k', .int .i64 a', .int .i64 t']] w (if r = true then AnsF w (c + c') k a t true else AnsF w 0 0 0 0 false) := by
  obtain ⟨g1, h1⟩ : ∃ n, gOkB c k a t = n := ⟨_, rfl⟩
  obtain ⟨g2, h2⟩ : ∃ n, gOkB c' k' a' t' = n := ⟨_, rfl⟩
  obtain ⟨m, hm⟩ : ∃ m, IntKind.i64.wrap (c + c') = m := ⟨_, rfl⟩
  obtain ⟨g3, h3⟩ : ∃ n, gOkB m k a t = n := ⟨_, rfl⟩
  obtain ⟨p2, e2⟩ : ∃ p, (k != k') = p := ⟨_, rfl⟩
  obtain ⟨p3, e3⟩ : ∃ p, (a != a') = p := ⟨_, rfl⟩
  obtain ⟨p4, e4⟩ : ∃ p, (t != t') = p := ⟨_, rfl⟩
  have k1 := Lib.hid (fun W => l4Group_any c k a t W g1 h1)
  have k2 := Lib.hid (fun W => l4Group_any c' k' a' t' W g2 h2)
  have k3 := Lib.hid (fun W => l4Group_any m k a t W g3 h3)
  have hmm : g1 = true → g2 = true → m = c + c' := fun e1 e2' => by
    rw [← hm]
    have a1 := (gOk_out (h1.trans e1)).1
    have a2 := (gOk_out (h2.trans e2')).1
    exact IntWalk.i64_in _ (by omega)
  have hR : r = (g1 && (g2 && (!p2 && (!p3 && (!p4 && g3))))) := by
    rw [← hr]
    unfold gJoinB
    rw [h1, h2]
    cases g1
    · rfl
    · cases g2
      · rfl
      · rw [hmm rfl rfl] at h3
        rw [h3, ← e2, ← e3, ← e4]
        by_cases q2 : k = k' <;> by_cases q3 : a = a' <;> by_cases q4 : t = t' <;> simp [q2, q3, q4]
  have BX := Lib.hid ((((BoxF.new w [.int .i64 c, .int .i64 k, .int .i64 a, .int .i64 t] 25).alloc (.cells #[.int .i64 c', .int .i64 k', .int .i64 a', .int .i64 t'] 25 (0, 0))).alloc (.cells #[.int .i64 0, .int .i64 0, .int .i64 0, .int .i64 0] 25 (0, 0))).alloc (.cells #[.int .i64 m, .int .i64 k, .int .i64 a, .int .i64 t] 25 (0, 0)))
  have BY := Lib.hid (((BoxF.new (w.alloc (.cells #[.int .i64 c, .int .i64 k, .int .i64 a, .int .i64 t] 25 (0, 0))) [.int .i64 c', .int .i64 k', .int .i64 a', .int .i64 t'] 25).alloc (.cells #[.int .i64 0, .int .i64 0, .int .i64 0, .int .i64 0] 25 (0, 0))).alloc (.cells #[.int .i64 m, .int .i64 k, .int .i64 a, .int .i64 t] 25 (0, 0)))
  have BR := Lib.hid ((BoxF.new ((w.alloc (.cells #[.int .i64 c, .int .i64 k, .int .i64 a, .int .i64 t] 25 (0, 0))).alloc (.cells #[.int .i64 c', .int .i64 k', .int .i64 a', .int .i64 t'] 25 (0, 0))) [.int .i64 0, .int .i64 0, .int .i64 0, .int .i64 0] 25).alloc (.cells #[.int .i64 m, .int .i64 k, .int .i64 a, .int .i64 t] 25 (0, 0)))
  have BO := Lib.hid (BoxF.new (((w.alloc (.cells #[.int .i64 c, .int .i64 k, .int .i64 a, .int .i64 t] 25 (0, 0))).alloc (.cells #[.int .i64 c', .int .i64 k', .int .i64 a', .int .i64 t'] 25 (0, 0))).alloc (.cells #[.int .i64 0, .int .i64 0, .int .i64 0, .int .i64 0] 25 (0, 0))) [.int .i64 m, .int .i64 k, .int .i64 a, .int .i64 t] 25)
  simp only [World.size_alloc] at BX BY BR BO
  have BB := Lib.hid ((((((Below.refl w.heap.size w).alloc (Nat.le_refl _) (.cells #[.int .i64 c, .int .i64 k, .int .i64 a, .int .i64 t] 25 (0, 0))).alloc (by simp) (.cells #[.int .i64 c', .int .i64 k', .int .i64 a', .int .i64 t'] 25 (0, 0))).alloc (by simp; omega) (.cells #[.int .i64 0, .int .i64 0, .int .i64 0, .int .i64 0] 25 (0, 0))).alloc (by simp; omega) (.cells #[.int .i64 m, .int .i64 k, .int .i64 a, .int .i64 t] 25 (0, 0))))
  clear hr h1 h2 h3
  rcases g1 with _ | _
  · obtain rfl : r = false := hR
    clear hmm
    simp only [Bool.false_eq_true, if_false]
    go_enter Tryd.func24, Tryd.ntmps24
    go_wp2_with fail
    refine (k1.out _).mono ?_
    rintro e w1 ⟨rfl, h1⟩
    have X1 := BX.out.below h1
    have Y1 := BY.out.below h1
    have R1 := BR.out.below h1
    have O1 := BO.out.below h1
    have HB1 := Lib.hid (BB.out.trans (h1.mono BB.out.size))
    obtain ⟨x0, x1, x2, x3, xf⟩ := X1.four
    obtain ⟨y0, y1, y2, y3, yf⟩ := Y1.four
    obtain ⟨r0, r1, r2, r3, rf⟩ := R1.four
    obtain ⟨o0, o1, o2, o3, of⟩ := O1.four
    have HX1 := Lib.hid X1
    have HY1 := Lib.hid Y1
    have HR1 := Lib.hid R1
    have HO1 := Lib.hid O1
    clear X1 Y1 R1 O1 h1 BX BY BR BO BB
    go_wp2_with fail
    exact bodyPost_ret (v := .tuple #[.agg #[.int .i64 0, .int .i64 0, .int .i64 0, .int .i64 0], .bool false]) (by simp [results, Tryd.results24, go_sem, r0, r1, r2, r3]) rfl ⟨rfl, HB1.out.grown (grown4 w1 (w.heap.size + 1 + 1) _ _ _ _) HB1.out.size (fun q hq => by cases hq; omega)⟩
  · rcases g2 with _ | _
    · obtain rfl : r = false := hR
      clear hmm
      simp only [Bool.false_eq_true, if_false]
      go_enter Tryd.func24, Tryd.ntmps24
      go_wp2_with fail
      refine (k1.out _).mono ?_
      rintro e w1 ⟨rfl, h1⟩
      have X1 := BX.out.below h1
      have Y1 := BY.out.below h1
      have R1 := BR.out.below h1
      have O1 := BO.out.below h1
      have HB1 := Lib.hid (BB.out.trans (h1.mono BB.out.size))
      obtain ⟨x0, x1, x2, x3, xf⟩ := X1.four
      obtain ⟨y0, y1, y2, y3, yf⟩ := Y1.four
      obtain ⟨r0, r1, r2, r3, rf⟩ := R1.four
      obtain ⟨o0, o1, o2, o3, of⟩ := O1.four
      have HX1 := Lib.hid X1
      have HY1 := Lib.hid Y1
      have HR1 := Lib.hid R1
      have HO1 := Lib.hid O1
      clear X1 Y1 R1 O1 h1 BX BY BR BO BB
      go_wp2_with fail
      refine (k2.out _).mono ?_
      clear x0 x1 x2 x3 y0 y1 y2 y3 r0 r1 r2 r3 o0 o1 o2 o3 xf yf rf of
      rintro e w2 ⟨rfl, h2⟩
      have X2 := HX1.out.below h2
      have Y2 := HY1.out.below h2
      have R2 := HR1.out.below h2
      have O2 := HO1.out.below h2
      have HB2 := Lib.hid (HB1.out.trans (h2.mono HB1.out.size))
      obtain ⟨x0, x1, x2, x3, xf⟩ := X2.four
      obtain ⟨y0, y1, y2, y3, yf⟩ := Y2.four
      obtain ⟨r0, r1, r2, r3, rf⟩ := R2.four
      obtain ⟨o0, o1, o2, o3, of⟩ := O2.four
      have HX2 := Lib.hid X2
      have HY2 := Lib.hid Y2
      have HR2 := Lib.hid R2
      have HO2 := Lib.hid O2
      clear X2 Y2 R2 O2 h2 HX1 HY1 HR1 HO1 HB1
      go_wp2_with fail
      exact bodyPost_ret (v := .tuple #[.agg #[.int .i64 0, .int .i64 0, .int .i64 0, .int .i64 0], .bool false]) (by simp [results, Tryd.results24, go_sem, r0, r1, r2, r3]) rfl ⟨rfl, HB2.out.grown (grown4 w2 (w.heap.size + 1 + 1) _ _ _ _) HB2.out.size (fun q hq => by cases hq; omega)⟩
    · have HMC := Lib.hid (hmm rfl rfl)
      clear hmm
      rcases p2 with _ | _
      · rcases p3 with _ | _
        · rcases p4 with _ | _
          · rcases g3 with _ | _
            · obtain rfl : r = false := hR
              simp only [Bool.false_eq_true, if_false]
              go_enter Tryd.func24, Tryd.ntmps24
              go_wp2_with fail
              refine (k1.out _).mono ?_
              rintro e w1 ⟨rfl, h1⟩
              have X1 := BX.out.below h1
              have Y1 := BY.out.below h1
              have R1 := BR.out.below h1
              have O1 := BO.out.below h1
              have HB1 := Lib.hid (BB.out.trans (h1.mono BB.out.size))
              obtain ⟨x0, x1, x2, x3, xf⟩ := X1.four
              obtain ⟨y0, y1, y2, y3, yf⟩ := Y1.four
              obtain ⟨r0, r1, r2, r3, rf⟩ := R1.four
              obtain ⟨o0, o1, o2, o3, of⟩ := O1.four
              have HX1 := Lib.hid X1
              have HY1 := Lib.hid Y1
              have HR1 := Lib.hid R1
              have HO1 := Lib.hid O1
              clear X1 Y1 R1 O1 h1 BX BY BR BO BB
              go_wp2_with fail
              refine (k2.out _).mono ?_
              clear x0 x1 x2 x3 y0 y1 y2 y3 r0 r1 r2 r3 o0 o1 o2 o3 xf yf rf of
              rintro e w2 ⟨rfl, h2⟩
              have X2 := HX1.out.below h2
              have Y2 := HY1.out.below h2
              have R2 := HR1.out.below h2
              have O2 := HO1.out.below h2
              have HB2 := Lib.hid (HB1.out.trans (h2.mono HB1.out.size))
              obtain ⟨x0, x1, x2, x3, xf⟩ := X2.four
              obtain ⟨y0, y1, y2, y3, yf⟩ := Y2.four
              obtain ⟨r0, r1, r2, r3, rf⟩ := R2.four
              obtain ⟨o0, o1, o2, o3, of⟩ := O2.four
              have HX2 := Lib.hid X2
              have HY2 := Lib.hid Y2
              have HR2 := Lib.hid R2
              have HO2 := Lib.hid O2
              clear X2 Y2 R2 O2 h2 HX1 HY1 HR1 HO1 HB1
              go_wp2_with fail
              refine (k3.out _).mono ?_
              clear x0 x1 x2 x3 y0 y1 y2 y3 r0 r1 r2 r3 o0 o1 o2 o3 xf yf rf of
              rintro e w3 ⟨rfl, h3⟩
              have X3 := HX2.out.below h3
              have Y3 := HY2.out.below h3
              have R3 := HR2.out.below h3
              have O3 := HO2.out.below h3
              have HB3 := Lib.hid (HB2.out.trans (h3.mono HB2.out.size))
              obtain ⟨x0, x1, x2, x3, xf⟩ := X3.four
              obtain ⟨y0, y1, y2, y3, yf⟩ := Y3.four
              obtain ⟨r0, r1, r2, r3, rf⟩ := R3.four
              obtain ⟨o0, o1, o2, o3, of⟩ := O3.four
              have HX3 := Lib.hid X3
              have HY3 := Lib.hid Y3
              have HR3 := Lib.hid R3
              have HO3 := Lib.hid O3
              clear X3 Y3 R3 O3 h3 HX2 HY2 HR2 HO2 HB2
              go_wp2_with fail
              exact bodyPost_ret (v := .tuple #[.agg #[.int .i64 0, .int .i64 0, .int .i64 0, .int .i64 0], .bool false]) (by simp [results, Tryd.results24, go_sem, r0, r1, r2, r3]) rfl ⟨rfl, HB3.out.grown (grown4 w3 (w.heap.size + 1 + 1) _ _ _ _) HB3.out.size (fun q hq => by cases hq; omega)⟩
            · obtain rfl : r = true := hR
              simp only [if_true]
              rw [← HMC.out]
              clear HMC
              go_enter Tryd.func24, Tryd.ntmps24
              go_wp2_with fail
              refine (k1.out _).mono ?_
              rintro e w1 ⟨rfl, h1⟩
              have X1 := BX.out.below h1
              have Y1 := BY.out.below h1
              have R1 := BR.out.below h1
              have O1 := BO.out.below h1
              have HB1 := Lib.hid (BB.out.trans (h1.mono BB.out.size))
              obtain ⟨x0, x1, x2, x3, xf⟩ := X1.four
              obtain ⟨y0, y1, y2, y3, yf⟩ := Y1.four
              obtain ⟨r0, r1, r2, r3, rf⟩ := R1.four
              obtain ⟨o0, o1, o2, o3, of⟩ := O1.four
              have HX1 := Lib.hid X1
              have HY1 := Lib.hid Y1
              have HR1 := Lib.hid R1
              have HO1 := Lib.hid O1
              clear X1 Y1 R1 O1 h1 BX BY BR BO BB
              go_wp2_with fail
              refine (k2.out _).mono ?_
              clear x0 x1 x2 x3 y0 y1 y2 y3 r0 r1 r2 r3 o0 o1 o2 o3 xf yf rf of
              rintro e w2 ⟨rfl, h2⟩
              have X2 := HX1.out.below h2
              have Y2 := HY1.out.below h2
              have R2 := HR1.out.below h2
              have O2 := HO1.out.below h2
              have HB2 := Lib.hid (HB1.out.trans (h2.mono HB1.out.size))
              obtain ⟨x0, x1, x2, x3, xf⟩ := X2.four
              obtain ⟨y0, y1, y2, y3, yf⟩ := Y2.four
              obtain ⟨r0, r1, r2, r3, rf⟩ := R2.four
              obtain ⟨o0, o1, o2, o3, of⟩ := O2.four
              have HX2 := Lib.hid X2
              have HY2 := Lib.hid Y2
              have HR2 := Lib.hid R2
              have HO2 := Lib.hid O2
              clear X2 Y2 R2 O2 h2 HX1 HY1 HR1 HO1 HB1
              go_wp2_with fail
              refine (k3.out _).mono ?_
              clear x0 x1 x2 x3 y0 y1 y2 y3 r0 r1 r2 r3 o0 o1 o2 o3 xf yf rf of
              rintro e w3 ⟨rfl, h3⟩
              have X3 := HX2.out.below h3
              have Y3 := HY2.out.below h3
              have R3 := HR2.out.below h3
              have O3 := HO2.out.below h3
              have HB3 := Lib.hid (HB2.out.trans (h3.mono HB2.out.size))
              obtain ⟨x0, x1, x2, x3, xf⟩ := X3.four
              obtain ⟨y0, y1, y2, y3, yf⟩ := Y3.four
              obtain ⟨r0, r1, r2, r3, rf⟩ := R3.four
              obtain ⟨o0, o1, o2, o3, of⟩ := O3.four
              have HX3 := Lib.hid X3
              have HY3 := Lib.hid Y3
              have HR3 := Lib.hid R3
              have HO3 := Lib.hid O3
              clear X3 Y3 R3 O3 h3 HX2 HY2 HR2 HO2 HB2
              go_wp2_with fail
              exact bodyPost_ret (v := .tuple #[.agg #[.int .i64 m, .int .i64 k, .int .i64 a, .int .i64 t], .bool true]) (by simp [results, Tryd.results24, go_sem, r0, r1, r2, r3]) rfl ⟨rfl, HB3.out.grown (grown4 w3 (w.heap.size + 1 + 1) _ _ _ _) HB3.out.size (fun q hq => by cases hq; omega)⟩
          · obtain rfl : r = false := hR
            simp only [Bool.false_eq_true, if_false]
            go_enter Tryd.func24, Tryd.ntmps24
            go_wp2_with fail
            refine (k1.out _).mono ?_
            rintro e w1 ⟨rfl, h1⟩
            have X1 := BX.out.below h1
            have Y1 := BY.out.below h1
            have R1 := BR.out.below h1
            have O1 := BO.out.below h1
            have HB1 := Lib.hid (BB.out.trans (h1.mono BB.out.size))
            obtain ⟨x0, x1, x2, x3, xf⟩ := X1.four
            obtain ⟨y0, y1, y2, y3, yf⟩ := Y1.four
            obtain ⟨r0, r1, r2, r3, rf⟩ := R1.four
            obtain ⟨o0, o1, o2, o3, of⟩ := O1.four
            have HX1 := Lib.hid X1
            have HY1 := Lib.hid Y1
            have HR1 := Lib.hid R1
            have HO1 := Lib.hid O1
            clear X1 Y1 R1 O1 h1 BX BY BR BO BB
            go_wp2_with fail
            refine (k2.out _).mono ?_
            clear x0 x1 x2 x3 y0 y1 y2 y3 r0 r1 r2 r3 o0 o1 o2 o3 xf yf rf of
            rintro e w2 ⟨rfl, h2⟩
            have X2 := HX1.out.below h2
            have Y2 := HY1.out.below h2
            have R2 := HR1.out.below h2
            have O2 := HO1.out.below h2
            have HB2 := Lib.hid (HB1.out.trans (h2.mono HB1.out.size))
            obtain ⟨x0, x1, x2, x3, xf⟩ := X2.four
            obtain ⟨y0, y1, y2, y3, yf⟩ := Y2.four
            obtain ⟨r0, r1, r2, r3, rf⟩ := R2.four
            obtain ⟨o0, o1, o2, o3, of⟩ := O2.four
            have HX2 := Lib.hid X2
            have HY2 := Lib.hid Y2
            have HR2 := Lib.hid R2
            have HO2 := Lib.hid O2
            clear X2 Y2 R2 O2 h2 HX1 HY1 HR1 HO1 HB1
            go_wp2_with fail
            exact bodyPost_ret (v := .tuple #[.agg #[.int .i64 0, .int .i64 0, .int .i64 0, .int .i64 0], .bool false]) (by simp [results, Tryd.results24, go_sem, r0, r1, r2, r3]) rfl ⟨rfl, HB2.out.grown (grown4 w2 (w.heap.size + 1 + 1) _ _ _ _) HB2.out.size (fun q hq => by cases hq; omega)⟩
        · obtain rfl : r = false := hR
          simp only [Bool.false_eq_true, if_false]
          go_enter Tryd.func24, Tryd.ntmps24
          go_wp2_with fail
          refine (k1.out _).mono ?_
          rintro e w1 ⟨rfl, h1⟩
          have X1 := BX.out.below h1
          have Y1 := BY.out.below h1
          have R1 := BR.out.below h1
          have O1 := BO.out.below h1
          have HB1 := Lib.hid (BB.out.trans (h1.mono BB.out.size))
          obtain ⟨x0, x1, x2, x3, xf⟩ := X1.four
          obtain ⟨y0, y1, y2, y3, yf⟩ := Y1.four
          obtain ⟨r0, r1, r2, r3, rf⟩ := R1.four
          obtain ⟨o0, o1, o2, o3, of⟩ := O1.four
          have HX1 := Lib.hid X1
          have HY1 := Lib.hid Y1
          have HR1 := Lib.hid R1
          have HO1 := Lib.hid O1
          clear X1 Y1 R1 O1 h1 BX BY BR BO BB
          go_wp2_with fail
          refine (k2.out _).mono ?_
          clear x0 x1 x2 x3 y0 y1 y2 y3 r0 r1 r2 r3 o0 o1 o2 o3 xf yf rf of
          rintro e w2 ⟨rfl, h2⟩
          have X2 := HX1.out.below h2
          have Y2 := HY1.out.below h2
          have R2 := HR1.out.below h2
          have O2 := HO1.out.below h2
          have HB2 := Lib.hid (HB1.out.trans (h2.mono HB1.out.size))
          obtain ⟨x0, x1, x2, x3, xf⟩ := X2.four
          obtain ⟨y0, y1, y2, y3, yf⟩ := Y2.four
          obtain ⟨r0, r1, r2, r3, rf⟩ := R2.four
          obtain ⟨o0, o1, o2, o3, of⟩ := O2.four
          have HX2 := Lib.hid X2
          have HY2 := Lib.hid Y2
          have HR2 := Lib.hid R2
          have HO2 := Lib.hid O2
          clear X2 Y2 R2 O2 h2 HX1 HY1 HR1 HO1 HB1
          go_wp2_with fail
          exact bodyPost_ret (v := .tuple #[.agg #[.int .i64 0, .int .i64 0, .int .i64 0, .int .i64 0], .bool false]) (by simp [results, Tryd.results24, go_sem, r0, r1, r2, r3]) rfl ⟨rfl, HB2.out.grown (grown4 w2 (w.heap.size + 1 + 1) _ _ _ _) HB2.out.size (fun q hq => by cases hq; omega)⟩
      · obtain rfl : r = false := hR
        simp only [Bool.false_eq_true, if_false]
        go_enter Tryd.func24, Tryd.ntmps24
        go_wp2_with fail
        refine (k1.out _).mono ?_
        rintro e w1 ⟨rfl, h1⟩
        have X1 := BX.out.below h1
        have Y1 := BY.out.below h1
        have R1 := BR.out.below h1
        have O1 := BO.out.below h1
        have HB1 := Lib.hid (BB.out.trans (h1.mono BB.out.size))
        obtain ⟨x0, x1, x2, x3, xf⟩ := X1.four
        obtain ⟨y0, y1, y2, y3, yf⟩ := Y1.four
        obtain ⟨r0, r1, r2, r3, rf⟩ := R1.four
        obtain ⟨o0, o1, o2, o3, of⟩ := O1.four
        have HX1 := Lib.hid X1
        have HY1 := Lib.hid Y1
        have HR1 := Lib.hid R1
        have HO1 := Lib.hid O1
        clear X1 Y1 R1 O1 h1 BX BY BR BO BB
        go_wp2_with fail
        refine (k2.out _).mono ?_
        clear x0 x1 x2 x3 y0 y1 y2 y3 r0 r1 r2 r3 o0 o1 o2 o3 xf yf rf of
        rintro e w2 ⟨rfl, h2⟩
        have X2 := HX1.out.below h2
        have Y2 := HY1.out.below h2
        have R2 := HR1.out.below h2
        have O2 := HO1.out.below h2
        have HB2 := Lib.hid (HB1.out.trans (h2.mono HB1.out.size))
        obtain ⟨x0, x1, x2, x3, xf⟩ := X2.four
        obtain ⟨y0, y1, y2, y3, yf⟩ := Y2.four
        obtain ⟨r0, r1, r2, r3, rf⟩ := R2.four
        obtain ⟨o0, o1, o2, o3, of⟩ := O2.four
        have HX2 := Lib.hid X2
        have HY2 := Lib.hid Y2
        have HR2 := Lib.hid R2
        have HO2 := Lib.hid O2
        clear X2 Y2 R2 O2 h2 HX1 HY1 HR1 HO1 HB1
        go_wp2_with fail
        exact bodyPost_ret (v := .tuple #[.agg #[.int .i64 0, .int .i64 0, .int .i64 0, .int .i64 0], .bool false]) (by simp [results, Tryd.results24, go_sem, r0, r1, r2, r3]) rfl ⟨rfl, HB2.out.grown (grown4 w2 (w.heap.size + 1 + 1) _ _ _ _) HB2.out.size (fun q hq => by cases hq; omega)⟩
end Go.Proofs.YtklfkdmmclomoaaDoor
