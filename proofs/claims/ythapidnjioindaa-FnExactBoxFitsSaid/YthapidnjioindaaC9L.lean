/- Contracts: the laws' eqRegion, markRegion, heldRegion, toRegion and szRegion. -/
import Derived.Test.YthapidnjioindaaC9R
namespace Go.Proofs.Ythapidnjioindaa
open Go.RowKit

theorem fix_below {W W1 : World} {m : Nat} (h : Below W.heap.size W W1) : Below W.heap.size W (W1.drewN m) := below_drewN' h m
theorem eqRegion_true (X : List Int) (n : Nat) (a1 a2 : Option Addr) (c1 c2 : Nat) (w : World) (h1 : RdI w a1 n X) (h2 : RdI w a2 n X) (hn : n ≤ 1048577) :
    Calls Try.prog 13 #[.agg #[.slice a1 n c1], .agg #[.slice a2 n c2]] w fun e w' => e = .returned (.bool true) ∧ Below w.heap.size w w' := by
  have XA := (BoxF.new w [.slice a1 n c1] 34).alloc (.cells #[.slice a2 n c2] 34 (0, 0))
  have XB := BoxF.new (w.alloc (.cells #[.slice a1 n c1] 34 (0, 0))) [.slice a2 n c2] 34
  have hb : Below w.heap.size w ((w.alloc (.cells #[.slice a1 n c1] 34 (0, 0))).alloc (.cells #[.slice a2 n c2] 34 (0, 0))) := ((Below.refl _ w).alloc (Nat.le_refl _) _).alloc (by simp) _
  have R1 := h1.below hb
  have R2 := h2.below hb
  have HB := Lib.hid hb
  have HR1 := Lib.hid R1
  have HR2 := Lib.hid R2
  simp only [World.size_alloc] at XB
  have c_1 := XA.one.1
  have c_2 := XB.one.1
  clear h1 h2 hb R1 R2 XA XB
  go_enter Try.func13, Try.ntmps13
  go_wp2_with fail
  refine (eqIntS_true X n a1 a2 c1 c2 _ HR1.out HR2.out hn).mono ?_
  rintro e w1 ⟨rfl, m, rfl⟩
  go_wp2_with fail
  go_ret
  exact ⟨rfl, below_drewN' HB.out m⟩
theorem szIntS_ok (a : Option Addr) (n c : Nat) (left : Int) (w : World) (h : (n : Int) ≤ left) (hl : left ≤ 1048576) :
    Calls Try.prog 23 #[.slice a n c, .int .i64 left] w fun e w' => e = .returned (.int .i64 (left - n)) ∧ w = w' := by
  have e0 : decide (left - (n : Int) < 0) = false := by simp; omega
  go_enter Try.func23, Try.ntmps23
  go_wp2_with fail
  go_ret
  exact ⟨rfl, rfl⟩
theorem szIntS_big (a : Option Addr) (n c : Nat) (left : Int) (w : World) (h : left < (n : Int)) (hl : 0 ≤ left) (hn : n ≤ maxLen) :
    Calls Try.prog 23 #[.slice a n c, .int .i64 left] w fun e w' => e = .returned (.int .i64 (-1)) ∧ w = w' := by
  have e0 : decide (left - (n : Int) < 0) = true := by simp; omega
  unfold maxLen at hn
  go_enter Try.func23, Try.ntmps23
  go_wp2_with fail
  go_ret
  exact ⟨rfl, rfl⟩
theorem szRegion_ok (a : Option Addr) (n c : Nat) (left : Int) (w : World) (h : (n : Int) ≤ left) (hl : left ≤ 1048576) :
    Calls Try.prog 9 #[.agg #[.slice a n c], .int .i64 left] w fun e w' => e = .returned (.int .i64 (left - n)) ∧ Below w.heap.size w w' := by
  have c_1 := (BoxF.new w [.slice a n c] 30).one.1
  have C := Lib.hid (fun W => szIntS_ok a n c left W h hl)
  have e0 : decide (left - (n : Int) < 0) = false := by simp; omega
  go_enter Try.func9, Try.ntmps9
  go_wp2_with fail
  refine (C.out _).mono ?_
  rintro e w1 ⟨rfl, rfl⟩
  go_wp2_with fail
  go_ret
  exact ⟨rfl, (Below.refl _ w).alloc (Nat.le_refl _) _⟩
theorem szRegion_big (a : Option Addr) (n c : Nat) (left : Int) (w : World) (h : left < (n : Int)) (hl : 0 ≤ left) (hn : n ≤ maxLen) :
    Calls Try.prog 9 #[.agg #[.slice a n c], .int .i64 left] w fun e w' => e = .returned (.int .i64 (-1)) ∧ Below w.heap.size w w' := by
  have c_1 := (BoxF.new w [.slice a n c] 30).one.1
  have C := Lib.hid (fun W => szIntS_big a n c left W h hl hn)
  go_enter Try.func9, Try.ntmps9
  go_wp2_with fail
  refine (C.out _).mono ?_
  rintro e w1 ⟨rfl, rfl⟩
  go_wp2_with fail
  go_ret
  exact ⟨rfl, (Below.refl _ w).alloc (Nat.le_refl _) _⟩
set_option maxHeartbeats 1000000 in
theorem toRegion_any (X : List Int) (n : Nat) (a : Option Addr) (c : Nat) (w : World) (h : RdI w a n X) (hn : n ≤ 1048576) :
    Calls Try.prog 11 #[.agg #[.slice a n c]] w fun e w' => ∃ g : Nat, e = .returned (.agg #[.slice (some ⟨g, 0, none⟩) n n]) ∧ OwnI w' w.heap.size (some ⟨g, 0, none⟩) n n X ∧ Below w.heap.size w w' := by
  have XA := (BoxF.new w [.slice a n c] 30).alloc (.cells #[.slice none 0 0] 34 (0, 0)) |>.alloc (.cells #[.slice none 0 0] 34 (0, 0))
  have XR := (BoxF.new (w.alloc (.cells #[.slice a n c] 30 (0, 0))) [.slice none 0 0] 34).alloc (.cells #[.slice none 0 0] 34 (0, 0))
  have XO := BoxF.new ((w.alloc (.cells #[.slice a n c] 30 (0, 0))).alloc (.cells #[.slice none 0 0] 34 (0, 0))) [.slice none 0 0] 34
  have hb : Below w.heap.size w (((w.alloc (.cells #[.slice a n c] 30 (0, 0))).alloc (.cells #[.slice none 0 0] 34 (0, 0))).alloc (.cells #[.slice none 0 0] 34 (0, 0))) := (((Below.refl _ w).alloc (Nat.le_refl _) _).alloc (by simp) _).alloc (by simp; omega) _
  have HR := Lib.hid (h.below hb)
  have HB := Lib.hid hb
  simp only [World.size_alloc] at XR XO
  have c_1 := XA.one.1
  have HXR := Lib.hid XR
  have HXO := Lib.hid XO
  clear h hb XA XR XO
  go_enter Try.func11, Try.ntmps11
  go_wp2_with fail
  refine (toIntS_any X n a c _ HR.out hn).mono ?_
  rintro e w1 ⟨g, rfl, ho, hb1⟩
  have hgg := (World.ownsRow.lt ho g rfl).1
  simp only [World.size_alloc] at hgg
  have XR := HXR.out.below hb1
  have XO := HXO.out.below hb1
  have HB1 := HB.out.trans (hb1.mono HB.out.size)
  obtain ⟨c_2, f_2⟩ := XO.one
  obtain ⟨c_3, f_3⟩ := XR.one
  have f2 := f_2 0
  have f3 := f_3 0
  have XO2 := XO.set 0 (.slice (some ⟨g, 0, none⟩) n n)
  have XR2 := XR.far (b' := w.heap.size + 1 + 1) 0 (.slice (some ⟨g, 0, none⟩) n n) (by omega)
  have HG2 := grownBy_set w1 (w.heap.size + 1 + 1) 0 (.slice (some ⟨g, 0, none⟩) n n)
  have HO2 := OwnI.kept (OwnI.low ho (B' := w.heap.size) (by simp; omega)) HG2 (by right; simp [Value.ownBlock]; omega)
  have HB2 := HB1.grown HG2 HB1.size (fun q hq => by cases hq; omega)
  have d_2 := XO2.one.1
  obtain ⟨d_3, g_3⟩ := XR2.one
  have g3 := g_3 0
  have XR3 := XR2.set 0 (.slice (some ⟨g, 0, none⟩) n n)
  have z0 := XR3.one.1
  have HG3 := grownBy_set (w1.setCell ⟨w.heap.size + 1 + 1, 0, none⟩ (.slice (some ⟨g, 0, none⟩) n n)) (w.heap.size + 1) 0 (.slice (some ⟨g, 0, none⟩) n n)
  have HO9 := Lib.hid (OwnI.kept HO2 HG3 (by right; simp [Value.ownBlock]; omega))
  have HB9 := Lib.hid (HB2.grown HG3 HB2.size (fun q hq => by cases hq; omega))
  clear XO2 XR2 XR3 HG2 HG3 HO2 HB2 ho hb1 XR XO HB1 f_2 f_3 g_3
  go_wp2_with fail
  exact bodyPost_ret (v := .agg #[.slice (some ⟨g, 0, none⟩) n n]) (by simp [results, Try.results11, go_sem, z0]) rfl ⟨_, rfl, HO9.out, HB9.out⟩
theorem eqIntS_b (X : List Int) (n : Nat) (a1 a2 : Option Addr) (c1 c2 : Nat) (w : World) (h1 : RdI w a1 n X) (h2 : RdI w a2 n X) (hn : n ≤ 1048577) :
    Calls Try.prog 28 #[.slice a1 n c1, .slice a2 n c2] w fun e w' => e = .returned (.bool true) ∧ Below w.heap.size w w' :=
  (eqIntS_true X n a1 a2 c1 c2 w h1 h2 hn).mono (fun e w' ⟨h1, q, h2⟩ => ⟨h1, by subst h2; exact below_drewN' (Below.refl _ _) q⟩)
end Go.Proofs.Ythapidnjioindaa
