/- Contract: the program's JoinGroups. -/
import Derived.Test.YtklfkdmmclomoaaDoorRGroups
import Derived.Test.YtklfkdmmclomoaaDoorGroups4
import Derived.Test.YtklfkdmmclomoaaDoorEqAgg
import Derived.IntWalk
namespace Go.Proofs.YtklfkdmmclomoaaDoor
open Go.RowKit

theorem gJoin_eq {c k a t c' k' a' t' : Int} {g1 g2 p0 p1 : Bool} (h1 : gOkB c k a t = g1) (h2 : gOkB c' k' a' t' = g2) (h0 : decide (c = c ∧ k = k' ∧ a = a' ∧ t = t') = p0) (h3 : decide (1 ≤ c + c' ∧ c + c' ≤ 6) = p1) :
    gJoinB c k a t c' k' a' t' = (g1 && (g2 && (p0 && p1))) := by
  unfold gJoinB
  rw [h1, h2]
  cases g1
  · rfl
  · cases g2
    · rfl
    · have o := gOk_out h1
      have hk : gOkB (c + c') k a t = p1 := by
        cases p1
        · have := of_decide_eq_false h3
          cases hx : gOkB (c + c') k a t
          · rfl
          · exact absurd (gOk_out hx).1 this
        · have := of_decide_eq_true h3
          exact gOk_in ⟨this, o.2.1, o.2.2.1, o.2.2.2⟩
      rw [hk, ← h0]
      by_cases q2 : k = k' <;> by_cases q3 : a = a' <;> by_cases q4 : t = t' <;> simp [q2, q3, q4]
set_option maxHeartbeats 8000000 in
theorem join_impl (c k a t c' k' a' t' : Int) (w : World) (r : Bool) (hr : gJoinB c k a t c' k' a' t' = r) (hA : AttsLie w) :
    Calls Tryd.prog 23 #[.agg #[.int .i64 c, .int .i64 k, .int .i64 a, .int .i64 t], .agg #[.int .i64 c', .int .i64 k', .int .i64 a', .int .i64 t']] w (if r = true then AnsF w (c + c') k a t true else AnsF w 0 0 0 0 false) := by
  obtain ⟨g1, h1⟩ : ∃ n, gOkB c k a t = n := ⟨_, rfl⟩
  obtain ⟨g2, h2⟩ : ∃ n, gOkB c' k' a' t' = n := ⟨_, rfl⟩
  obtain ⟨p0, h0⟩ : ∃ n, decide (c = c ∧ k = k' ∧ a = a' ∧ t = t') = n := ⟨_, rfl⟩
  obtain ⟨p1, h3⟩ : ∃ n, decide (1 ≤ c + c' ∧ c + c' ≤ 6) = n := ⟨_, rfl⟩
  rw [gJoin_eq h1 h2 h0 h3] at hr
  have K1 := Lib.hid (fun W (hb : Below w.heap.size w W) => validGroup_impl c k a t W g1 h1 (hA.below hb))
  have K2 := Lib.hid (fun W (hb : Below w.heap.size w W) => validGroup_impl c' k' a' t' W g2 h2 (hA.below hb))
  have K3 := Lib.hid (fun W => isCount_any (c + c') W p1 h3)
  have Q := Lib.hid (fun W => h0 ▸ neGroup_run c k a t c k' a' t' W)
  have hb1 : g1 = true → 1 ≤ c ∧ c ≤ 6 := fun e => (gOk_out (h1.trans e)).1
  have hb2 : g2 = true → 1 ≤ c' ∧ c' ≤ 6 := fun e => (gOk_out (h2.trans e)).1
  have BX := Lib.hid (((BoxF.new w [.int .i64 c, .int .i64 k, .int .i64 a, .int .i64 t] 25).alloc (.cells #[.int .i64 c', .int .i64 k', .int .i64 a', .int .i64 t'] 25 (0, 0))).alloc (.cells #[.int .i64 0, .int .i64 0, .int .i64 0, .int .i64 0] 25 (0, 0)))
  have BY := Lib.hid ((BoxF.new (w.alloc (.cells #[.int .i64 c, .int .i64 k, .int .i64 a, .int .i64 t] 25 (0, 0))) [.int .i64 c', .int .i64 k', .int .i64 a', .int .i64 t'] 25).alloc (.cells #[.int .i64 0, .int .i64 0, .int .i64 0, .int .i64 0] 25 (0, 0)))
  have BR := Lib.hid (BoxF.new ((w.alloc (.cells #[.int .i64 c, .int .i64 k, .int .i64 a, .int .i64 t] 25 (0, 0))).alloc (.cells #[.int .i64 c', .int .i64 k', .int .i64 a', .int .i64 t'] 25 (0, 0))) [.int .i64 0, .int .i64 0, .int .i64 0, .int .i64 0] 25)
  simp only [World.size_alloc] at BX BY BR
  have BB := Lib.hid ((((Below.refl w.heap.size w).alloc (Nat.le_refl _) (.cells #[.int .i64 c, .int .i64 k, .int .i64 a, .int .i64 t] 25 (0, 0))).alloc (by simp) (.cells #[.int .i64 c', .int .i64 k', .int .i64 a', .int .i64 t'] 25 (0, 0))).alloc (by simp; omega) (.cells #[.int .i64 0, .int .i64 0, .int .i64 0, .int .i64 0] 25 (0, 0)))
  clear h1 h2 h0 h3 hA
  cases g1
  · obtain rfl : false = r := hr
    simp only [Bool.false_eq_true, if_false]
    clear hb1 hb2 Q K3 K2
    go_enter Tryd.func23, Tryd.ntmps23
    go_wp2_with fail
    refine (K1.out _ BB.out).mono ?_
    rintro e w1 ⟨rfl, h1⟩
    have X1 := BX.out.below h1
    have Y1 := BY.out.below h1
    have R1 := BR.out.below h1
    have HB1 := Lib.hid (BB.out.trans (h1.mono BB.out.size))
    obtain ⟨x0, x1, x2, x3, xf⟩ := X1.four
    obtain ⟨y0, y1, y2, y3, yf⟩ := Y1.four
    obtain ⟨r0, r1, r2, r3, rf⟩ := R1.four
    have HX1 := Lib.hid X1
    have HY1 := Lib.hid Y1
    have HR1 := Lib.hid R1
    clear X1 Y1 R1 h1 BX BY BR BB
    go_wp2_with fail
    exact bodyPost_ret (v := .tuple #[.agg #[.int .i64 0, .int .i64 0, .int .i64 0, .int .i64 0], .bool false]) (by simp [results, Tryd.results23, go_sem, r0, r1, r2, r3]) rfl ⟨rfl, HB1.out.grown (grown4 w1 (w.heap.size + 1 + 1) _ _ _ _) HB1.out.size (fun q hq => by cases hq; omega)⟩
  · cases g2
    · obtain rfl : false = r := hr
      simp only [Bool.false_eq_true, if_false]
      clear hb1 hb2 Q K3
      go_enter Tryd.func23, Tryd.ntmps23
      go_wp2_with fail
      refine (K1.out _ BB.out).mono ?_
      rintro e w1 ⟨rfl, h1⟩
      have X1 := BX.out.below h1
      have Y1 := BY.out.below h1
      have R1 := BR.out.below h1
      have HB1 := Lib.hid (BB.out.trans (h1.mono BB.out.size))
      obtain ⟨x0, x1, x2, x3, xf⟩ := X1.four
      obtain ⟨y0, y1, y2, y3, yf⟩ := Y1.four
      obtain ⟨r0, r1, r2, r3, rf⟩ := R1.four
      have HX1 := Lib.hid X1
      have HY1 := Lib.hid Y1
      have HR1 := Lib.hid R1
      clear X1 Y1 R1 h1 BX BY BR BB
      go_wp2_with fail
      refine (K2.out _ HB1.out).mono ?_
      clear x0 x1 x2 x3 y0 y1 y2 y3 r0 r1 r2 r3 xf yf rf
      rintro e w2 ⟨rfl, h2⟩
      have X2 := HX1.out.below h2
      have Y2 := HY1.out.below h2
      have R2 := HR1.out.below h2
      have HB2 := Lib.hid (HB1.out.trans (h2.mono HB1.out.size))
      obtain ⟨x0, x1, x2, x3, xf⟩ := X2.four
      obtain ⟨y0, y1, y2, y3, yf⟩ := Y2.four
      obtain ⟨r0, r1, r2, r3, rf⟩ := R2.four
      have HX2 := Lib.hid X2
      have HY2 := Lib.hid Y2
      have HR2 := Lib.hid R2
      clear X2 Y2 R2 h2 HX1 HY1 HR1 HB1
      go_wp2_with fail
      exact bodyPost_ret (v := .tuple #[.agg #[.int .i64 0, .int .i64 0, .int .i64 0, .int .i64 0], .bool false]) (by simp [results, Tryd.results23, go_sem, r0, r1, r2, r3]) rfl ⟨rfl, HB2.out.grown (grown4 w2 (w.heap.size + 1 + 1) _ _ _ _) HB2.out.size (fun q hq => by cases hq; omega)⟩
    · obtain ⟨hc1, hc6⟩ := hb1 rfl
      obtain ⟨hd1, hd6⟩ := hb2 rfl
      clear hb1 hb2
      have hw : IntKind.i64.wrap (c + c') = c + c' := IntWalk.i64_in _ (by omega)
      cases p0
      · obtain rfl : false = r := hr
        simp only [Bool.false_eq_true, if_false]
        go_enter Tryd.func23, Tryd.ntmps23
        go_wp2_with fail
        refine (K1.out _ BB.out).mono ?_
        rintro e w1 ⟨rfl, h1⟩
        have X1 := BX.out.below h1
        have Y1 := BY.out.below h1
        have R1 := BR.out.below h1
        have HB1 := Lib.hid (BB.out.trans (h1.mono BB.out.size))
        obtain ⟨x0, x1, x2, x3, xf⟩ := X1.four
        obtain ⟨y0, y1, y2, y3, yf⟩ := Y1.four
        obtain ⟨r0, r1, r2, r3, rf⟩ := R1.four
        have HX1 := Lib.hid X1
        have HY1 := Lib.hid Y1
        have HR1 := Lib.hid R1
        clear X1 Y1 R1 h1 BX BY BR BB
        go_wp2_with fail
        refine (K2.out _ HB1.out).mono ?_
        clear x0 x1 x2 x3 y0 y1 y2 y3 r0 r1 r2 r3 xf yf rf
        rintro e w2 ⟨rfl, h2⟩
        have X2 := HX1.out.below h2
        have Y2 := HY1.out.below h2
        have R2 := HR1.out.below h2
        have HB2 := Lib.hid (HB1.out.trans (h2.mono HB1.out.size))
        obtain ⟨x0, x1, x2, x3, xf⟩ := X2.four
        obtain ⟨y0, y1, y2, y3, yf⟩ := Y2.four
        obtain ⟨r0, r1, r2, r3, rf⟩ := R2.four
        have HX2 := Lib.hid X2
        have HY2 := Lib.hid Y2
        have HR2 := Lib.hid R2
        clear X2 Y2 R2 h2 HX1 HY1 HR1 HB1
        have hz : w.heap.size + 1 + 1 < w2.heap.size := HR2.out.lt
        have ra0 : ∀ o i, (w2.alloc o).cell? ⟨w.heap.size, i, none⟩ = w2.cell? ⟨w.heap.size, i, none⟩ := fun o i => World.cell?_alloc_lt _ _ _ (by show w.heap.size < _; omega)
        have ra1 : ∀ o i, (w2.alloc o).cell? ⟨w.heap.size + 1, i, none⟩ = w2.cell? ⟨w.heap.size + 1, i, none⟩ := fun o i => World.cell?_alloc_lt _ _ _ (by show w.heap.size + 1 < _; omega)
        have ra2 : ∀ o i, (w2.alloc o).cell? ⟨w.heap.size + 1 + 1, i, none⟩ = w2.cell? ⟨w.heap.size + 1 + 1, i, none⟩ := fun o i => World.cell?_alloc_lt _ _ _ (by show w.heap.size + 1 + 1 < _; omega)
        have rs0 : ∀ (W : World) i j v, (W.setCell ⟨w2.heap.size, i, none⟩ v).cell? ⟨w.heap.size, j, none⟩ = W.cell? ⟨w.heap.size, j, none⟩ := fun W i j v => cset_b _ _ _ _ _ _ (by omega)
        have rs1 : ∀ (W : World) i j v, (W.setCell ⟨w2.heap.size, i, none⟩ v).cell? ⟨w.heap.size + 1, j, none⟩ = W.cell? ⟨w.heap.size + 1, j, none⟩ := fun W i j v => cset_b _ _ _ _ _ _ (by omega)
        have rs2 : ∀ (W : World) i j v, (W.setCell ⟨w2.heap.size, i, none⟩ v).cell? ⟨w.heap.size + 1 + 1, j, none⟩ = W.cell? ⟨w.heap.size + 1 + 1, j, none⟩ := fun W i j v => cset_b _ _ _ _ _ _ (by omega)
        have rt0 : ∀ (W : World) i j v, (W.setCell ⟨w.heap.size + 1, i, none⟩ v).cell? ⟨w.heap.size, j, none⟩ = W.cell? ⟨w.heap.size, j, none⟩ := fun W i j v => cset_b _ _ _ _ _ _ (by omega)
        have rt1 : ∀ (W : World) i j v, (W.setCell ⟨w.heap.size + 1, i, none⟩ v).cell? ⟨w2.heap.size, j, none⟩ = W.cell? ⟨w2.heap.size, j, none⟩ := fun W i j v => cset_b _ _ _ _ _ _ (by omega)
        have rt2 : ∀ (W : World) i j v, (W.setCell ⟨w.heap.size + 1, i, none⟩ v).cell? ⟨w.heap.size + 1 + 1, j, none⟩ = W.cell? ⟨w.heap.size + 1 + 1, j, none⟩ := fun W i j v => cset_b _ _ _ _ _ _ (by omega)
        have ru : ∀ (W : World) i j v, i ≠ j → (W.setCell ⟨w.heap.size + 1, i, none⟩ v).cell? ⟨w.heap.size + 1, j, none⟩ = W.cell? ⟨w.heap.size + 1, j, none⟩ := fun W i j v h => cset_o _ _ _ _ _ h
        have rv : ∀ (W : World) i j v, i ≠ j → (W.setCell ⟨w2.heap.size, i, none⟩ v).cell? ⟨w2.heap.size, j, none⟩ = W.cell? ⟨w2.heap.size, j, none⟩ := fun W i j v h => cset_o _ _ _ _ _ h
        have fa1 : ∀ o i, (w2.alloc o).frozen? ⟨w.heap.size + 1, i, none⟩ = false := fun o i => (World.frozen?_alloc_old w2 o ⟨w.heap.size + 1, i, none⟩ (by show w.heap.size + 1 ≠ _; omega)).trans (yf i)
        have fa2 : ∀ o i, (w2.alloc o).frozen? ⟨w.heap.size + 1 + 1, i, none⟩ = false := fun o i => (World.frozen?_alloc_old w2 o ⟨w.heap.size + 1 + 1, i, none⟩ (by show w.heap.size + 1 + 1 ≠ _; omega)).trans (rf i)
        have BZ := Lib.hid (((HB2.out.alloc HB2.out.size (.cells #[.int .i64 (c + c'), .int .i64 k, .int .i64 a, .int .i64 t] 25 (0, 0))).setCell (p := ⟨w.heap.size + 1, 0, none⟩) (by show _ ≤ w.heap.size + 1; omega) (.int .i64 c)))
        have q1 := Q.out
        go_wp2_with fail
        exact bodyPost_ret (v := .tuple #[.agg #[.int .i64 0, .int .i64 0, .int .i64 0, .int .i64 0], .bool false]) (by simp [results, Tryd.results23, go_sem, r0, r1, r2, r3, rt2, ra2]) rfl ⟨rfl, BZ.out.grown (grown4 _ (w.heap.size + 1 + 1) _ _ _ _) BZ.out.size (fun q hq => by cases hq; omega)⟩
      · cases p1
        · obtain rfl : false = r := hr
          simp only [Bool.false_eq_true, if_false]
          go_enter Tryd.func23, Tryd.ntmps23
          go_wp2_with fail
          refine (K1.out _ BB.out).mono ?_
          rintro e w1 ⟨rfl, h1⟩
          have X1 := BX.out.below h1
          have Y1 := BY.out.below h1
          have R1 := BR.out.below h1
          have HB1 := Lib.hid (BB.out.trans (h1.mono BB.out.size))
          obtain ⟨x0, x1, x2, x3, xf⟩ := X1.four
          obtain ⟨y0, y1, y2, y3, yf⟩ := Y1.four
          obtain ⟨r0, r1, r2, r3, rf⟩ := R1.four
          have HX1 := Lib.hid X1
          have HY1 := Lib.hid Y1
          have HR1 := Lib.hid R1
          clear X1 Y1 R1 h1 BX BY BR BB
          go_wp2_with fail
          refine (K2.out _ HB1.out).mono ?_
          clear x0 x1 x2 x3 y0 y1 y2 y3 r0 r1 r2 r3 xf yf rf
          rintro e w2 ⟨rfl, h2⟩
          have X2 := HX1.out.below h2
          have Y2 := HY1.out.below h2
          have R2 := HR1.out.below h2
          have HB2 := Lib.hid (HB1.out.trans (h2.mono HB1.out.size))
          obtain ⟨x0, x1, x2, x3, xf⟩ := X2.four
          obtain ⟨y0, y1, y2, y3, yf⟩ := Y2.four
          obtain ⟨r0, r1, r2, r3, rf⟩ := R2.four
          have HX2 := Lib.hid X2
          have HY2 := Lib.hid Y2
          have HR2 := Lib.hid R2
          clear X2 Y2 R2 h2 HX1 HY1 HR1 HB1
          have hz : w.heap.size + 1 + 1 < w2.heap.size := HR2.out.lt
          have ra0 : ∀ o i, (w2.alloc o).cell? ⟨w.heap.size, i, none⟩ = w2.cell? ⟨w.heap.size, i, none⟩ := fun o i => World.cell?_alloc_lt _ _ _ (by show w.heap.size < _; omega)
          have ra1 : ∀ o i, (w2.alloc o).cell? ⟨w.heap.size + 1, i, none⟩ = w2.cell? ⟨w.heap.size + 1, i, none⟩ := fun o i => World.cell?_alloc_lt _ _ _ (by show w.heap.size + 1 < _; omega)
          have ra2 : ∀ o i, (w2.alloc o).cell? ⟨w.heap.size + 1 + 1, i, none⟩ = w2.cell? ⟨w.heap.size + 1 + 1, i, none⟩ := fun o i => World.cell?_alloc_lt _ _ _ (by show w.heap.size + 1 + 1 < _; omega)
          have rs0 : ∀ (W : World) i j v, (W.setCell ⟨w2.heap.size, i, none⟩ v).cell? ⟨w.heap.size, j, none⟩ = W.cell? ⟨w.heap.size, j, none⟩ := fun W i j v => cset_b _ _ _ _ _ _ (by omega)
          have rs1 : ∀ (W : World) i j v, (W.setCell ⟨w2.heap.size, i, none⟩ v).cell? ⟨w.heap.size + 1, j, none⟩ = W.cell? ⟨w.heap.size + 1, j, none⟩ := fun W i j v => cset_b _ _ _ _ _ _ (by omega)
          have rs2 : ∀ (W : World) i j v, (W.setCell ⟨w2.heap.size, i, none⟩ v).cell? ⟨w.heap.size + 1 + 1, j, none⟩ = W.cell? ⟨w.heap.size + 1 + 1, j, none⟩ := fun W i j v => cset_b _ _ _ _ _ _ (by omega)
          have rt0 : ∀ (W : World) i j v, (W.setCell ⟨w.heap.size + 1, i, none⟩ v).cell? ⟨w.heap.size, j, none⟩ = W.cell? ⟨w.heap.size, j, none⟩ := fun W i j v => cset_b _ _ _ _ _ _ (by omega)
          have rt1 : ∀ (W : World) i j v, (W.setCell ⟨w.heap.size + 1, i, none⟩ v).cell? ⟨w2.heap.size, j, none⟩ = W.cell? ⟨w2.heap.size, j, none⟩ := fun W i j v => cset_b _ _ _ _ _ _ (by omega)
          have rt2 : ∀ (W : World) i j v, (W.setCell ⟨w.heap.size + 1, i, none⟩ v).cell? ⟨w.heap.size + 1 + 1, j, none⟩ = W.cell? ⟨w.heap.size + 1 + 1, j, none⟩ := fun W i j v => cset_b _ _ _ _ _ _ (by omega)
          have ru : ∀ (W : World) i j v, i ≠ j → (W.setCell ⟨w.heap.size + 1, i, none⟩ v).cell? ⟨w.heap.size + 1, j, none⟩ = W.cell? ⟨w.heap.size + 1, j, none⟩ := fun W i j v h => cset_o _ _ _ _ _ h
          have rv : ∀ (W : World) i j v, i ≠ j → (W.setCell ⟨w2.heap.size, i, none⟩ v).cell? ⟨w2.heap.size, j, none⟩ = W.cell? ⟨w2.heap.size, j, none⟩ := fun W i j v h => cset_o _ _ _ _ _ h
          have fa1 : ∀ o i, (w2.alloc o).frozen? ⟨w.heap.size + 1, i, none⟩ = false := fun o i => (World.frozen?_alloc_old w2 o ⟨w.heap.size + 1, i, none⟩ (by show w.heap.size + 1 ≠ _; omega)).trans (yf i)
          have fa2 : ∀ o i, (w2.alloc o).frozen? ⟨w.heap.size + 1 + 1, i, none⟩ = false := fun o i => (World.frozen?_alloc_old w2 o ⟨w.heap.size + 1 + 1, i, none⟩ (by show w.heap.size + 1 + 1 ≠ _; omega)).trans (rf i)
          have BZ := Lib.hid (((HB2.out.alloc HB2.out.size (.cells #[.int .i64 (c + c'), .int .i64 k, .int .i64 a, .int .i64 t] 25 (0, 0))).setCell (p := ⟨w.heap.size + 1, 0, none⟩) (by show _ ≤ w.heap.size + 1; omega) (.int .i64 c)))
          have q1 := Q.out
          go_wp2_with (go_at_call 54; (with_reducible refine (K3.out _).mono ?_); rintro e w3 ⟨rfl, rfl⟩)
          exact bodyPost_ret (v := .tuple #[.agg #[.int .i64 0, .int .i64 0, .int .i64 0, .int .i64 0], .bool false]) (by simp [results, Tryd.results23, go_sem, r0, r1, r2, r3, rt2, ra2]) rfl ⟨rfl, BZ.out.grown (grown4 _ (w.heap.size + 1 + 1) _ _ _ _) BZ.out.size (fun q hq => by cases hq; omega)⟩
        · obtain rfl : true = r := hr
          simp only [if_true]
          go_enter Tryd.func23, Tryd.ntmps23
          go_wp2_with fail
          refine (K1.out _ BB.out).mono ?_
          rintro e w1 ⟨rfl, h1⟩
          have X1 := BX.out.below h1
          have Y1 := BY.out.below h1
          have R1 := BR.out.below h1
          have HB1 := Lib.hid (BB.out.trans (h1.mono BB.out.size))
          obtain ⟨x0, x1, x2, x3, xf⟩ := X1.four
          obtain ⟨y0, y1, y2, y3, yf⟩ := Y1.four
          obtain ⟨r0, r1, r2, r3, rf⟩ := R1.four
          have HX1 := Lib.hid X1
          have HY1 := Lib.hid Y1
          have HR1 := Lib.hid R1
          clear X1 Y1 R1 h1 BX BY BR BB
          go_wp2_with fail
          refine (K2.out _ HB1.out).mono ?_
          clear x0 x1 x2 x3 y0 y1 y2 y3 r0 r1 r2 r3 xf yf rf
          rintro e w2 ⟨rfl, h2⟩
          have X2 := HX1.out.below h2
          have Y2 := HY1.out.below h2
          have R2 := HR1.out.below h2
          have HB2 := Lib.hid (HB1.out.trans (h2.mono HB1.out.size))
          obtain ⟨x0, x1, x2, x3, xf⟩ := X2.four
          obtain ⟨y0, y1, y2, y3, yf⟩ := Y2.four
          obtain ⟨r0, r1, r2, r3, rf⟩ := R2.four
          have HX2 := Lib.hid X2
          have HY2 := Lib.hid Y2
          have HR2 := Lib.hid R2
          clear X2 Y2 R2 h2 HX1 HY1 HR1 HB1
          have hz : w.heap.size + 1 + 1 < w2.heap.size := HR2.out.lt
          have ra0 : ∀ o i, (w2.alloc o).cell? ⟨w.heap.size, i, none⟩ = w2.cell? ⟨w.heap.size, i, none⟩ := fun o i => World.cell?_alloc_lt _ _ _ (by show w.heap.size < _; omega)
          have ra1 : ∀ o i, (w2.alloc o).cell? ⟨w.heap.size + 1, i, none⟩ = w2.cell? ⟨w.heap.size + 1, i, none⟩ := fun o i => World.cell?_alloc_lt _ _ _ (by show w.heap.size + 1 < _; omega)
          have ra2 : ∀ o i, (w2.alloc o).cell? ⟨w.heap.size + 1 + 1, i, none⟩ = w2.cell? ⟨w.heap.size + 1 + 1, i, none⟩ := fun o i => World.cell?_alloc_lt _ _ _ (by show w.heap.size + 1 + 1 < _; omega)
          have rs0 : ∀ (W : World) i j v, (W.setCell ⟨w2.heap.size, i, none⟩ v).cell? ⟨w.heap.size, j, none⟩ = W.cell? ⟨w.heap.size, j, none⟩ := fun W i j v => cset_b _ _ _ _ _ _ (by omega)
          have rs1 : ∀ (W : World) i j v, (W.setCell ⟨w2.heap.size, i, none⟩ v).cell? ⟨w.heap.size + 1, j, none⟩ = W.cell? ⟨w.heap.size + 1, j, none⟩ := fun W i j v => cset_b _ _ _ _ _ _ (by omega)
          have rs2 : ∀ (W : World) i j v, (W.setCell ⟨w2.heap.size, i, none⟩ v).cell? ⟨w.heap.size + 1 + 1, j, none⟩ = W.cell? ⟨w.heap.size + 1 + 1, j, none⟩ := fun W i j v => cset_b _ _ _ _ _ _ (by omega)
          have rt0 : ∀ (W : World) i j v, (W.setCell ⟨w.heap.size + 1, i, none⟩ v).cell? ⟨w.heap.size, j, none⟩ = W.cell? ⟨w.heap.size, j, none⟩ := fun W i j v => cset_b _ _ _ _ _ _ (by omega)
          have rt1 : ∀ (W : World) i j v, (W.setCell ⟨w.heap.size + 1, i, none⟩ v).cell? ⟨w2.heap.size, j, none⟩ = W.cell? ⟨w2.heap.size, j, none⟩ := fun W i j v => cset_b _ _ _ _ _ _ (by omega)
          have rt2 : ∀ (W : World) i j v, (W.setCell ⟨w.heap.size + 1, i, none⟩ v).cell? ⟨w.heap.size + 1 + 1, j, none⟩ = W.cell? ⟨w.heap.size + 1 + 1, j, none⟩ := fun W i j v => cset_b _ _ _ _ _ _ (by omega)
          have ru : ∀ (W : World) i j v, i ≠ j → (W.setCell ⟨w.heap.size + 1, i, none⟩ v).cell? ⟨w.heap.size + 1, j, none⟩ = W.cell? ⟨w.heap.size + 1, j, none⟩ := fun W i j v h => cset_o _ _ _ _ _ h
          have rv : ∀ (W : World) i j v, i ≠ j → (W.setCell ⟨w2.heap.size, i, none⟩ v).cell? ⟨w2.heap.size, j, none⟩ = W.cell? ⟨w2.heap.size, j, none⟩ := fun W i j v h => cset_o _ _ _ _ _ h
          have fa1 : ∀ o i, (w2.alloc o).frozen? ⟨w.heap.size + 1, i, none⟩ = false := fun o i => (World.frozen?_alloc_old w2 o ⟨w.heap.size + 1, i, none⟩ (by show w.heap.size + 1 ≠ _; omega)).trans (yf i)
          have fa2 : ∀ o i, (w2.alloc o).frozen? ⟨w.heap.size + 1 + 1, i, none⟩ = false := fun o i => (World.frozen?_alloc_old w2 o ⟨w.heap.size + 1 + 1, i, none⟩ (by show w.heap.size + 1 + 1 ≠ _; omega)).trans (rf i)
          have BZ := Lib.hid (((HB2.out.alloc HB2.out.size (.cells #[.int .i64 (c + c'), .int .i64 k, .int .i64 a, .int .i64 t] 25 (0, 0))).setCell (p := ⟨w.heap.size + 1, 0, none⟩) (by show _ ≤ w.heap.size + 1; omega) (.int .i64 c)))
          have q1 := Q.out
          go_wp2_with (go_at_call 54; (with_reducible refine (K3.out _).mono ?_); rintro e w3 ⟨rfl, rfl⟩)
          exact bodyPost_ret (v := .tuple #[.agg #[.int .i64 (c + c'), .int .i64 k, .int .i64 a, .int .i64 t], .bool true]) (by simp [results, Tryd.results23, go_sem, r0, r1, r2, r3, rt2, ra2]) rfl ⟨rfl, BZ.out.grown (grown4 _ (w.heap.size + 1 + 1) _ _ _ _) BZ.out.size (fun q hq => by cases hq; omega)⟩
end Go.Proofs.YtklfkdmmclomoaaDoor
