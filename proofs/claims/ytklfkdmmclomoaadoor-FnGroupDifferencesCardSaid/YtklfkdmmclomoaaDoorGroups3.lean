/- Contracts: the model's GroupDifferences. -/
import Derived.Test.YtklfkdmmclomoaaDoorGroups2
namespace Go.Proofs.YtklfkdmmclomoaaDoor
open Go.RowKit

/-- A group that may stand: valid or none. -/
def gAnyB (c k a t : Int) : Bool := gNoB c k a t || gOkB c k a t
set_option maxHeartbeats 4000000 in
theorem groupDiff_spec (c k a t c' k' a' t' : Int) (w : World) (r : Bool) (hr : (gAnyB c k a t && gAnyB c' k' a' t') = r) :
    Calls Tryd.prog 27 #[.agg #[.int .i64 c, .int .i64 k, .int .i64 a, .int .i64 t], .agg #[.int .i64 c', .int .i64 k', .int .i64 a', .int .i64 t']] w fun e w' => e = .returned (.tuple #[.int .i64 (if r = true then gdif c k a t c' k' a' t' else 0), .bool r]) ∧ Below w.heap.size w w' := by
  obtain ⟨n1, h1⟩ : ∃ n, gNoB c k a t = n := ⟨_, rfl⟩
  obtain ⟨n2, h2⟩ : ∃ n, gNoB c' k' a' t' = n := ⟨_, rfl⟩
  obtain ⟨g1, h3⟩ : ∃ n, gOkB c k a t = n := ⟨_, rfl⟩
  obtain ⟨g2, h4⟩ : ∃ n, gOkB c' k' a' t' = n := ⟨_, rfl⟩
  obtain ⟨D, hD⟩ : ∃ D, gdif c k a t c' k' a' t' = D := ⟨_, rfl⟩
  have k1 := Lib.hid (fun W => l4None_any c k a t W n1 h1)
  have k2 := Lib.hid (fun W => l4None_any c' k' a' t' W n2 h2)
  have k3 := Lib.hid (fun W => l4Group_any c k a t W g1 h3)
  have k4 := Lib.hid (fun W => l4Group_any c' k' a' t' W g2 h4)
  have kd := fun W => l4Differences_any c k a t c' k' a' t' W
  rw [hD] at kd ⊢
  have K5 := Lib.hid kd
  unfold gAnyB at hr
  rw [h1, h2, h3, h4] at hr
  clear h1 h2 h3 h4 kd hD
  rcases n1 with _ | _
  · rcases g1 with _ | _
    · subst hr
      go_enter Tryd.func27, Tryd.ntmps27
      go_wp2_with fail
      refine (k1.out _).mono ?_
      rintro e w1 ⟨rfl, h1⟩
      have X1 := ((Box.new w [.int .i64 c, .int .i64 k, .int .i64 a, .int .i64 t] 25).alloc (.cells #[.int .i64 c', .int .i64 k', .int .i64 a', .int .i64 t'] 25 (0, 0))).below h1
      have Y1 := (Box.new (w.alloc (.cells #[.int .i64 c, .int .i64 k, .int .i64 a, .int .i64 t] 25 (0, 0))) [.int .i64 c', .int .i64 k', .int .i64 a', .int .i64 t'] 25).below h1
      simp only [World.size_alloc] at Y1
      have HB1 := Lib.hid (box2 h1)
      have x0 := X1.2 0 _ rfl
      have x1 := X1.2 1 _ rfl
      have x2 := X1.2 2 _ rfl
      have x3 := X1.2 3 _ rfl
      have y0 := Y1.2 0 _ rfl
      have y1 := Y1.2 1 _ rfl
      have y2 := Y1.2 2 _ rfl
      have y3 := Y1.2 3 _ rfl
      have HX1 := Lib.hid X1
      have HY1 := Lib.hid Y1
      clear X1 Y1 h1
      go_wp2_with fail
      refine (k3.out _).mono ?_
      clear x0 x1 x2 x3 y0 y1 y2 y3
      rintro e w2 ⟨rfl, h2⟩
      have X2 := HX1.out.below h2
      have Y2 := HY1.out.below h2
      have HB2 := Lib.hid (HB1.out.trans (h2.mono HB1.out.size))
      have x0 := X2.2 0 _ rfl
      have x1 := X2.2 1 _ rfl
      have x2 := X2.2 2 _ rfl
      have x3 := X2.2 3 _ rfl
      have y0 := Y2.2 0 _ rfl
      have y1 := Y2.2 1 _ rfl
      have y2 := Y2.2 2 _ rfl
      have y3 := Y2.2 3 _ rfl
      have HX2 := Lib.hid X2
      have HY2 := Lib.hid Y2
      clear X2 Y2 h2 HX1 HY1 HB1
      go_wp2_with fail
      go_ret2
      exact ⟨rfl, HB2.out⟩
    · rcases n2 with _ | _
      · rcases g2 with _ | _
        · subst hr
          go_enter Tryd.func27, Tryd.ntmps27
          go_wp2_with fail
          refine (k1.out _).mono ?_
          rintro e w1 ⟨rfl, h1⟩
          have X1 := ((Box.new w [.int .i64 c, .int .i64 k, .int .i64 a, .int .i64 t] 25).alloc (.cells #[.int .i64 c', .int .i64 k', .int .i64 a', .int .i64 t'] 25 (0, 0))).below h1
          have Y1 := (Box.new (w.alloc (.cells #[.int .i64 c, .int .i64 k, .int .i64 a, .int .i64 t] 25 (0, 0))) [.int .i64 c', .int .i64 k', .int .i64 a', .int .i64 t'] 25).below h1
          simp only [World.size_alloc] at Y1
          have HB1 := Lib.hid (box2 h1)
          have x0 := X1.2 0 _ rfl
          have x1 := X1.2 1 _ rfl
          have x2 := X1.2 2 _ rfl
          have x3 := X1.2 3 _ rfl
          have y0 := Y1.2 0 _ rfl
          have y1 := Y1.2 1 _ rfl
          have y2 := Y1.2 2 _ rfl
          have y3 := Y1.2 3 _ rfl
          have HX1 := Lib.hid X1
          have HY1 := Lib.hid Y1
          clear X1 Y1 h1
          go_wp2_with fail
          refine (k3.out _).mono ?_
          clear x0 x1 x2 x3 y0 y1 y2 y3
          rintro e w2 ⟨rfl, h2⟩
          have X2 := HX1.out.below h2
          have Y2 := HY1.out.below h2
          have HB2 := Lib.hid (HB1.out.trans (h2.mono HB1.out.size))
          have x0 := X2.2 0 _ rfl
          have x1 := X2.2 1 _ rfl
          have x2 := X2.2 2 _ rfl
          have x3 := X2.2 3 _ rfl
          have y0 := Y2.2 0 _ rfl
          have y1 := Y2.2 1 _ rfl
          have y2 := Y2.2 2 _ rfl
          have y3 := Y2.2 3 _ rfl
          have HX2 := Lib.hid X2
          have HY2 := Lib.hid Y2
          clear X2 Y2 h2 HX1 HY1 HB1
          go_wp2_with fail
          refine (k2.out _).mono ?_
          clear x0 x1 x2 x3 y0 y1 y2 y3
          rintro e w3 ⟨rfl, h3⟩
          have X3 := HX2.out.below h3
          have Y3 := HY2.out.below h3
          have HB3 := Lib.hid (HB2.out.trans (h3.mono HB2.out.size))
          have x0 := X3.2 0 _ rfl
          have x1 := X3.2 1 _ rfl
          have x2 := X3.2 2 _ rfl
          have x3 := X3.2 3 _ rfl
          have y0 := Y3.2 0 _ rfl
          have y1 := Y3.2 1 _ rfl
          have y2 := Y3.2 2 _ rfl
          have y3 := Y3.2 3 _ rfl
          have HX3 := Lib.hid X3
          have HY3 := Lib.hid Y3
          clear X3 Y3 h3 HX2 HY2 HB2
          go_wp2_with fail
          refine (k4.out _).mono ?_
          clear x0 x1 x2 x3 y0 y1 y2 y3
          rintro e w4 ⟨rfl, h4⟩
          have X4 := HX3.out.below h4
          have Y4 := HY3.out.below h4
          have HB4 := Lib.hid (HB3.out.trans (h4.mono HB3.out.size))
          have x0 := X4.2 0 _ rfl
          have x1 := X4.2 1 _ rfl
          have x2 := X4.2 2 _ rfl
          have x3 := X4.2 3 _ rfl
          have y0 := Y4.2 0 _ rfl
          have y1 := Y4.2 1 _ rfl
          have y2 := Y4.2 2 _ rfl
          have y3 := Y4.2 3 _ rfl
          have HX4 := Lib.hid X4
          have HY4 := Lib.hid Y4
          clear X4 Y4 h4 HX3 HY3 HB3
          go_wp2_with fail
          go_ret2
          exact ⟨rfl, HB4.out⟩
        · subst hr
          go_enter Tryd.func27, Tryd.ntmps27
          go_wp2_with fail
          refine (k1.out _).mono ?_
          rintro e w1 ⟨rfl, h1⟩
          have X1 := ((Box.new w [.int .i64 c, .int .i64 k, .int .i64 a, .int .i64 t] 25).alloc (.cells #[.int .i64 c', .int .i64 k', .int .i64 a', .int .i64 t'] 25 (0, 0))).below h1
          have Y1 := (Box.new (w.alloc (.cells #[.int .i64 c, .int .i64 k, .int .i64 a, .int .i64 t] 25 (0, 0))) [.int .i64 c', .int .i64 k', .int .i64 a', .int .i64 t'] 25).below h1
          simp only [World.size_alloc] at Y1
          have HB1 := Lib.hid (box2 h1)
          have x0 := X1.2 0 _ rfl
          have x1 := X1.2 1 _ rfl
          have x2 := X1.2 2 _ rfl
          have x3 := X1.2 3 _ rfl
          have y0 := Y1.2 0 _ rfl
          have y1 := Y1.2 1 _ rfl
          have y2 := Y1.2 2 _ rfl
          have y3 := Y1.2 3 _ rfl
          have HX1 := Lib.hid X1
          have HY1 := Lib.hid Y1
          clear X1 Y1 h1
          go_wp2_with fail
          refine (k3.out _).mono ?_
          clear x0 x1 x2 x3 y0 y1 y2 y3
          rintro e w2 ⟨rfl, h2⟩
          have X2 := HX1.out.below h2
          have Y2 := HY1.out.below h2
          have HB2 := Lib.hid (HB1.out.trans (h2.mono HB1.out.size))
          have x0 := X2.2 0 _ rfl
          have x1 := X2.2 1 _ rfl
          have x2 := X2.2 2 _ rfl
          have x3 := X2.2 3 _ rfl
          have y0 := Y2.2 0 _ rfl
          have y1 := Y2.2 1 _ rfl
          have y2 := Y2.2 2 _ rfl
          have y3 := Y2.2 3 _ rfl
          have HX2 := Lib.hid X2
          have HY2 := Lib.hid Y2
          clear X2 Y2 h2 HX1 HY1 HB1
          go_wp2_with fail
          refine (k2.out _).mono ?_
          clear x0 x1 x2 x3 y0 y1 y2 y3
          rintro e w3 ⟨rfl, h3⟩
          have X3 := HX2.out.below h3
          have Y3 := HY2.out.below h3
          have HB3 := Lib.hid (HB2.out.trans (h3.mono HB2.out.size))
          have x0 := X3.2 0 _ rfl
          have x1 := X3.2 1 _ rfl
          have x2 := X3.2 2 _ rfl
          have x3 := X3.2 3 _ rfl
          have y0 := Y3.2 0 _ rfl
          have y1 := Y3.2 1 _ rfl
          have y2 := Y3.2 2 _ rfl
          have y3 := Y3.2 3 _ rfl
          have HX3 := Lib.hid X3
          have HY3 := Lib.hid Y3
          clear X3 Y3 h3 HX2 HY2 HB2
          go_wp2_with fail
          refine (k4.out _).mono ?_
          clear x0 x1 x2 x3 y0 y1 y2 y3
          rintro e w4 ⟨rfl, h4⟩
          have X4 := HX3.out.below h4
          have Y4 := HY3.out.below h4
          have HB4 := Lib.hid (HB3.out.trans (h4.mono HB3.out.size))
          have x0 := X4.2 0 _ rfl
          have x1 := X4.2 1 _ rfl
          have x2 := X4.2 2 _ rfl
          have x3 := X4.2 3 _ rfl
          have y0 := Y4.2 0 _ rfl
          have y1 := Y4.2 1 _ rfl
          have y2 := Y4.2 2 _ rfl
          have y3 := Y4.2 3 _ rfl
          have HX4 := Lib.hid X4
          have HY4 := Lib.hid Y4
          clear X4 Y4 h4 HX3 HY3 HB3
          go_wp2_with fail
          refine (K5.out _).mono ?_
          clear x0 x1 x2 x3 y0 y1 y2 y3
          rintro e w5 ⟨rfl, h5⟩
          have X5 := HX4.out.below h5
          have Y5 := HY4.out.below h5
          have HB5 := Lib.hid (HB4.out.trans (h5.mono HB4.out.size))
          have x0 := X5.2 0 _ rfl
          have x1 := X5.2 1 _ rfl
          have x2 := X5.2 2 _ rfl
          have x3 := X5.2 3 _ rfl
          have y0 := Y5.2 0 _ rfl
          have y1 := Y5.2 1 _ rfl
          have y2 := Y5.2 2 _ rfl
          have y3 := Y5.2 3 _ rfl
          have HX5 := Lib.hid X5
          have HY5 := Lib.hid Y5
          clear X5 Y5 h5 HX4 HY4 HB4
          go_wp2_with fail
          go_ret2
          exact ⟨rfl, HB5.out⟩
      · subst hr
        go_enter Tryd.func27, Tryd.ntmps27
        go_wp2_with fail
        refine (k1.out _).mono ?_
        rintro e w1 ⟨rfl, h1⟩
        have X1 := ((Box.new w [.int .i64 c, .int .i64 k, .int .i64 a, .int .i64 t] 25).alloc (.cells #[.int .i64 c', .int .i64 k', .int .i64 a', .int .i64 t'] 25 (0, 0))).below h1
        have Y1 := (Box.new (w.alloc (.cells #[.int .i64 c, .int .i64 k, .int .i64 a, .int .i64 t] 25 (0, 0))) [.int .i64 c', .int .i64 k', .int .i64 a', .int .i64 t'] 25).below h1
        simp only [World.size_alloc] at Y1
        have HB1 := Lib.hid (box2 h1)
        have x0 := X1.2 0 _ rfl
        have x1 := X1.2 1 _ rfl
        have x2 := X1.2 2 _ rfl
        have x3 := X1.2 3 _ rfl
        have y0 := Y1.2 0 _ rfl
        have y1 := Y1.2 1 _ rfl
        have y2 := Y1.2 2 _ rfl
        have y3 := Y1.2 3 _ rfl
        have HX1 := Lib.hid X1
        have HY1 := Lib.hid Y1
        clear X1 Y1 h1
        go_wp2_with fail
        refine (k3.out _).mono ?_
        clear x0 x1 x2 x3 y0 y1 y2 y3
        rintro e w2 ⟨rfl, h2⟩
        have X2 := HX1.out.below h2
        have Y2 := HY1.out.below h2
        have HB2 := Lib.hid (HB1.out.trans (h2.mono HB1.out.size))
        have x0 := X2.2 0 _ rfl
        have x1 := X2.2 1 _ rfl
        have x2 := X2.2 2 _ rfl
        have x3 := X2.2 3 _ rfl
        have y0 := Y2.2 0 _ rfl
        have y1 := Y2.2 1 _ rfl
        have y2 := Y2.2 2 _ rfl
        have y3 := Y2.2 3 _ rfl
        have HX2 := Lib.hid X2
        have HY2 := Lib.hid Y2
        clear X2 Y2 h2 HX1 HY1 HB1
        go_wp2_with fail
        refine (k2.out _).mono ?_
        clear x0 x1 x2 x3 y0 y1 y2 y3
        rintro e w3 ⟨rfl, h3⟩
        have X3 := HX2.out.below h3
        have Y3 := HY2.out.below h3
        have HB3 := Lib.hid (HB2.out.trans (h3.mono HB2.out.size))
        have x0 := X3.2 0 _ rfl
        have x1 := X3.2 1 _ rfl
        have x2 := X3.2 2 _ rfl
        have x3 := X3.2 3 _ rfl
        have y0 := Y3.2 0 _ rfl
        have y1 := Y3.2 1 _ rfl
        have y2 := Y3.2 2 _ rfl
        have y3 := Y3.2 3 _ rfl
        have HX3 := Lib.hid X3
        have HY3 := Lib.hid Y3
        clear X3 Y3 h3 HX2 HY2 HB2
        go_wp2_with fail
        refine (K5.out _).mono ?_
        clear x0 x1 x2 x3 y0 y1 y2 y3
        rintro e w4 ⟨rfl, h4⟩
        have X4 := HX3.out.below h4
        have Y4 := HY3.out.below h4
        have HB4 := Lib.hid (HB3.out.trans (h4.mono HB3.out.size))
        have x0 := X4.2 0 _ rfl
        have x1 := X4.2 1 _ rfl
        have x2 := X4.2 2 _ rfl
        have x3 := X4.2 3 _ rfl
        have y0 := Y4.2 0 _ rfl
        have y1 := Y4.2 1 _ rfl
        have y2 := Y4.2 2 _ rfl
        have y3 := Y4.2 3 _ rfl
        have HX4 := Lib.hid X4
        have HY4 := Lib.hid Y4
        clear X4 Y4 h4 HX3 HY3 HB3
        go_wp2_with fail
        go_ret2
        exact ⟨rfl, HB4.out⟩
  · rcases n2 with _ | _
    · rcases g2 with _ | _
      · subst hr
        go_enter Tryd.func27, Tryd.ntmps27
        go_wp2_with fail
        refine (k1.out _).mono ?_
        rintro e w1 ⟨rfl, h1⟩
        have X1 := ((Box.new w [.int .i64 c, .int .i64 k, .int .i64 a, .int .i64 t] 25).alloc (.cells #[.int .i64 c', .int .i64 k', .int .i64 a', .int .i64 t'] 25 (0, 0))).below h1
        have Y1 := (Box.new (w.alloc (.cells #[.int .i64 c, .int .i64 k, .int .i64 a, .int .i64 t] 25 (0, 0))) [.int .i64 c', .int .i64 k', .int .i64 a', .int .i64 t'] 25).below h1
        simp only [World.size_alloc] at Y1
        have HB1 := Lib.hid (box2 h1)
        have x0 := X1.2 0 _ rfl
        have x1 := X1.2 1 _ rfl
        have x2 := X1.2 2 _ rfl
        have x3 := X1.2 3 _ rfl
        have y0 := Y1.2 0 _ rfl
        have y1 := Y1.2 1 _ rfl
        have y2 := Y1.2 2 _ rfl
        have y3 := Y1.2 3 _ rfl
        have HX1 := Lib.hid X1
        have HY1 := Lib.hid Y1
        clear X1 Y1 h1
        go_wp2_with fail
        refine (k2.out _).mono ?_
        clear x0 x1 x2 x3 y0 y1 y2 y3
        rintro e w2 ⟨rfl, h2⟩
        have X2 := HX1.out.below h2
        have Y2 := HY1.out.below h2
        have HB2 := Lib.hid (HB1.out.trans (h2.mono HB1.out.size))
        have x0 := X2.2 0 _ rfl
        have x1 := X2.2 1 _ rfl
        have x2 := X2.2 2 _ rfl
        have x3 := X2.2 3 _ rfl
        have y0 := Y2.2 0 _ rfl
        have y1 := Y2.2 1 _ rfl
        have y2 := Y2.2 2 _ rfl
        have y3 := Y2.2 3 _ rfl
        have HX2 := Lib.hid X2
        have HY2 := Lib.hid Y2
        clear X2 Y2 h2 HX1 HY1 HB1
        go_wp2_with fail
        refine (k4.out _).mono ?_
        clear x0 x1 x2 x3 y0 y1 y2 y3
        rintro e w3 ⟨rfl, h3⟩
        have X3 := HX2.out.below h3
        have Y3 := HY2.out.below h3
        have HB3 := Lib.hid (HB2.out.trans (h3.mono HB2.out.size))
        have x0 := X3.2 0 _ rfl
        have x1 := X3.2 1 _ rfl
        have x2 := X3.2 2 _ rfl
        have x3 := X3.2 3 _ rfl
        have y0 := Y3.2 0 _ rfl
        have y1 := Y3.2 1 _ rfl
        have y2 := Y3.2 2 _ rfl
        have y3 := Y3.2 3 _ rfl
        have HX3 := Lib.hid X3
        have HY3 := Lib.hid Y3
        clear X3 Y3 h3 HX2 HY2 HB2
        go_wp2_with fail
        go_ret2
        exact ⟨rfl, HB3.out⟩
      · subst hr
        go_enter Tryd.func27, Tryd.ntmps27
        go_wp2_with fail
        refine (k1.out _).mono ?_
        rintro e w1 ⟨rfl, h1⟩
        have X1 := ((Box.new w [.int .i64 c, .int .i64 k, .int .i64 a, .int .i64 t] 25).alloc (.cells #[.int .i64 c', .int .i64 k', .int .i64 a', .int .i64 t'] 25 (0, 0))).below h1
        have Y1 := (Box.new (w.alloc (.cells #[.int .i64 c, .int .i64 k, .int .i64 a, .int .i64 t] 25 (0, 0))) [.int .i64 c', .int .i64 k', .int .i64 a', .int .i64 t'] 25).below h1
        simp only [World.size_alloc] at Y1
        have HB1 := Lib.hid (box2 h1)
        have x0 := X1.2 0 _ rfl
        have x1 := X1.2 1 _ rfl
        have x2 := X1.2 2 _ rfl
        have x3 := X1.2 3 _ rfl
        have y0 := Y1.2 0 _ rfl
        have y1 := Y1.2 1 _ rfl
        have y2 := Y1.2 2 _ rfl
        have y3 := Y1.2 3 _ rfl
        have HX1 := Lib.hid X1
        have HY1 := Lib.hid Y1
        clear X1 Y1 h1
        go_wp2_with fail
        refine (k2.out _).mono ?_
        clear x0 x1 x2 x3 y0 y1 y2 y3
        rintro e w2 ⟨rfl, h2⟩
        have X2 := HX1.out.below h2
        have Y2 := HY1.out.below h2
        have HB2 := Lib.hid (HB1.out.trans (h2.mono HB1.out.size))
        have x0 := X2.2 0 _ rfl
        have x1 := X2.2 1 _ rfl
        have x2 := X2.2 2 _ rfl
        have x3 := X2.2 3 _ rfl
        have y0 := Y2.2 0 _ rfl
        have y1 := Y2.2 1 _ rfl
        have y2 := Y2.2 2 _ rfl
        have y3 := Y2.2 3 _ rfl
        have HX2 := Lib.hid X2
        have HY2 := Lib.hid Y2
        clear X2 Y2 h2 HX1 HY1 HB1
        go_wp2_with fail
        refine (k4.out _).mono ?_
        clear x0 x1 x2 x3 y0 y1 y2 y3
        rintro e w3 ⟨rfl, h3⟩
        have X3 := HX2.out.below h3
        have Y3 := HY2.out.below h3
        have HB3 := Lib.hid (HB2.out.trans (h3.mono HB2.out.size))
        have x0 := X3.2 0 _ rfl
        have x1 := X3.2 1 _ rfl
        have x2 := X3.2 2 _ rfl
        have x3 := X3.2 3 _ rfl
        have y0 := Y3.2 0 _ rfl
        have y1 := Y3.2 1 _ rfl
        have y2 := Y3.2 2 _ rfl
        have y3 := Y3.2 3 _ rfl
        have HX3 := Lib.hid X3
        have HY3 := Lib.hid Y3
        clear X3 Y3 h3 HX2 HY2 HB2
        go_wp2_with fail
        refine (K5.out _).mono ?_
        clear x0 x1 x2 x3 y0 y1 y2 y3
        rintro e w4 ⟨rfl, h4⟩
        have X4 := HX3.out.below h4
        have Y4 := HY3.out.below h4
        have HB4 := Lib.hid (HB3.out.trans (h4.mono HB3.out.size))
        have x0 := X4.2 0 _ rfl
        have x1 := X4.2 1 _ rfl
        have x2 := X4.2 2 _ rfl
        have x3 := X4.2 3 _ rfl
        have y0 := Y4.2 0 _ rfl
        have y1 := Y4.2 1 _ rfl
        have y2 := Y4.2 2 _ rfl
        have y3 := Y4.2 3 _ rfl
        have HX4 := Lib.hid X4
        have HY4 := Lib.hid Y4
        clear X4 Y4 h4 HX3 HY3 HB3
        go_wp2_with fail
        go_ret2
        exact ⟨rfl, HB4.out⟩
    · subst hr
      go_enter Tryd.func27, Tryd.ntmps27
      go_wp2_with fail
      refine (k1.out _).mono ?_
      rintro e w1 ⟨rfl, h1⟩
      have X1 := ((Box.new w [.int .i64 c, .int .i64 k, .int .i64 a, .int .i64 t] 25).alloc (.cells #[.int .i64 c', .int .i64 k', .int .i64 a', .int .i64 t'] 25 (0, 0))).below h1
      have Y1 := (Box.new (w.alloc (.cells #[.int .i64 c, .int .i64 k, .int .i64 a, .int .i64 t] 25 (0, 0))) [.int .i64 c', .int .i64 k', .int .i64 a', .int .i64 t'] 25).below h1
      simp only [World.size_alloc] at Y1
      have HB1 := Lib.hid (box2 h1)
      have x0 := X1.2 0 _ rfl
      have x1 := X1.2 1 _ rfl
      have x2 := X1.2 2 _ rfl
      have x3 := X1.2 3 _ rfl
      have y0 := Y1.2 0 _ rfl
      have y1 := Y1.2 1 _ rfl
      have y2 := Y1.2 2 _ rfl
      have y3 := Y1.2 3 _ rfl
      have HX1 := Lib.hid X1
      have HY1 := Lib.hid Y1
      clear X1 Y1 h1
      go_wp2_with fail
      refine (k2.out _).mono ?_
      clear x0 x1 x2 x3 y0 y1 y2 y3
      rintro e w2 ⟨rfl, h2⟩
      have X2 := HX1.out.below h2
      have Y2 := HY1.out.below h2
      have HB2 := Lib.hid (HB1.out.trans (h2.mono HB1.out.size))
      have x0 := X2.2 0 _ rfl
      have x1 := X2.2 1 _ rfl
      have x2 := X2.2 2 _ rfl
      have x3 := X2.2 3 _ rfl
      have y0 := Y2.2 0 _ rfl
      have y1 := Y2.2 1 _ rfl
      have y2 := Y2.2 2 _ rfl
      have y3 := Y2.2 3 _ rfl
      have HX2 := Lib.hid X2
      have HY2 := Lib.hid Y2
      clear X2 Y2 h2 HX1 HY1 HB1
      go_wp2_with fail
      refine (K5.out _).mono ?_
      clear x0 x1 x2 x3 y0 y1 y2 y3
      rintro e w3 ⟨rfl, h3⟩
      have X3 := HX2.out.below h3
      have Y3 := HY2.out.below h3
      have HB3 := Lib.hid (HB2.out.trans (h3.mono HB2.out.size))
      have x0 := X3.2 0 _ rfl
      have x1 := X3.2 1 _ rfl
      have x2 := X3.2 2 _ rfl
      have x3 := X3.2 3 _ rfl
      have y0 := Y3.2 0 _ rfl
      have y1 := Y3.2 1 _ rfl
      have y2 := Y3.2 2 _ rfl
      have y3 := Y3.2 3 _ rfl
      have HX3 := Lib.hid X3
      have HY3 := Lib.hid Y3
      clear X3 Y3 h3 HX2 HY2 HB2
      go_wp2_with fail
      go_ret2
      exact ⟨rfl, HB3.out⟩
end Go.Proofs.YtklfkdmmclomoaaDoor
