/- Contracts: the laws' eqRegion, markRegion, heldRegion, toRegion and szRegion. -/
import Derived.Test.YthapidnjioindaaDoorC9R
namespace Go.Proofs.YthapidnjioindaaDoor
open Go.RowKit

theorem fix_below {W W1 : World} {m : Nat} (h : Below W.heap.size W W1) : Below W.heap.size W (W1.drewN m) := below_drewN' h m
theorem eqRegion_true (X : List Int) (n : Nat) (a1 a2 : Option Addr) (c1 c2 : Nat) (w : World) (h1 : RdI w a1 n X) (h2 : RdI w a2 n X) (hn : n ≤ 1048577) :
    Calls Tryd.prog 23 #[.agg #[.slice a1 n c1], .agg #[.slice a2 n c2]] w fun e w' => e = .returned (.bool true) ∧ Below w.heap.size w w' := by
  have XA := (BoxF.new w [.slice a1 n c1] 26).alloc (.cells #[.slice a2 n c2] 26 (0, 0))
  have XB := BoxF.new (w.alloc (.cells #[.slice a1 n c1] 26 (0, 0))) [.slice a2 n c2] 26
  have hb : Below w.heap.size w ((w.alloc (.cells #[.slice a1 n c1] 26 (0, 0))).alloc (.cells #[.slice a2 n c2] 26 (0, 0))) := ((Below.refl _ w).alloc (Nat.le_refl _) _).alloc (by simp) _
  have R1 := h1.below hb
  have R2 := h2.below hb
  have HB := Lib.hid hb
  have HR1 := Lib.hid R1
  have HR2 := Lib.hid R2
  simp only [World.size_alloc] at XB
  have c_1 := XA.one.1
  have c_2 := XB.one.1
  clear h1 h2 hb R1 R2 XA XB
  go_enter Tryd.func23, Tryd.ntmps23
  go_wp2_with fail
  refine (eqIntS_true X n a1 a2 c1 c2 _ HR1.out HR2.out hn).mono ?_
  rintro e w1 ⟨rfl, m, rfl⟩
  go_wp2_with fail
  go_ret
  exact ⟨rfl, below_drewN' HB.out m⟩
theorem markRegion_any (X : List Int) (n B cap : Nat) (a : Option Addr) (w : World) (hown : OwnI w B a n cap X) (hn : n ≤ 1048577) :
    Calls Tryd.prog 24 #[.agg #[.slice a n cap], .int .i64 1] w fun e w' => e = .returned (.int .i64 (1 + (n : Int))) ∧ OwnI w' B a n cap (ones n) ∧ w.grownBy w' (Value.slice a n cap).ownBlock := by
  have XA := BoxF.new w [.slice a n cap] 26
  have H1 := Lib.hid (hown.below ((Below.refl _ w).alloc (Nat.le_refl _) (.cells #[.slice a n cap] 26 (0, 0))))
  have HG := Lib.hid (World.grownBy_alloc w (.cells #[.slice a n cap] 26 (0, 0)) (Value.slice a n cap).ownBlock)
  have c_1 := XA.one.1
  clear XA hown
  go_enter Tryd.func24, Tryd.ntmps24
  go_wp2_with fail
  refine (mark1 X n B cap a _ H1.out hn).mono ?_
  rintro e w1 ⟨rfl, o1, hg1⟩
  have HO := Lib.hid o1
  have HG1 := Lib.hid (HG.out.trans hg1)
  clear o1 hg1
  go_wp2_with fail
  go_ret
  exact ⟨rfl, HO.out, HG1.out⟩
theorem heldRegion_any (n : Nat) (a : Option Addr) (c : Nat) (w : World) (h : RdI w a n (ones n)) (hn : n ≤ 1048577) :
    Calls Tryd.prog 30 #[.agg #[.slice a n c], .int .i64 1] w fun e w' => e = .returned (.int .i64 (1 + (n : Int))) ∧ Below w.heap.size w w' := by
  have XA := BoxF.new w [.slice a n c] 26
  have hb := (Below.refl _ w).alloc (Nat.le_refl _) (.cells #[.slice a n c] 26 (0, 0))
  have H1 := Lib.hid (h.below hb)
  have HB := Lib.hid hb
  have c_1 := XA.one.1
  have e0 : decide ((1 : Int) + (n : Int) < 0) = false := by simp; omega
  clear XA h hb
  go_enter Tryd.func30, Tryd.ntmps30
  go_wp2_with fail
  refine (held1 n a c _ H1.out hn).mono ?_
  rintro e w1 ⟨rfl, m, rfl⟩
  go_wp2_with fail
  go_ret
  exact ⟨rfl, below_drewN' HB.out m⟩
theorem szIntS_ok (a : Option Addr) (n c : Nat) (left : Int) (w : World) (h : (n : Int) ≤ left) (hl : left ≤ 1048576) :
    Calls Tryd.prog 64 #[.slice a n c, .int .i64 left] w fun e w' => e = .returned (.int .i64 (left - n)) ∧ w = w' := by
  have e0 : decide (left - (n : Int) < 0) = false := by simp; omega
  go_enter Tryd.func64, Tryd.ntmps64
  go_wp2_with fail
  go_ret
  exact ⟨rfl, rfl⟩
theorem szIntS_big (a : Option Addr) (n c : Nat) (left : Int) (w : World) (h : left < (n : Int)) (hl : 0 ≤ left) (hn : n ≤ maxLen) :
    Calls Tryd.prog 64 #[.slice a n c, .int .i64 left] w fun e w' => e = .returned (.int .i64 (-1)) ∧ w = w' := by
  have e0 : decide (left - (n : Int) < 0) = true := by simp; omega
  unfold maxLen at hn
  go_enter Tryd.func64, Tryd.ntmps64
  go_wp2_with fail
  go_ret
  exact ⟨rfl, rfl⟩
theorem szRegion_ok (a : Option Addr) (n c : Nat) (left : Int) (w : World) (h : (n : Int) ≤ left) (hl : left ≤ 1048576) :
    Calls Tryd.prog 20 #[.agg #[.slice a n c], .int .i64 left] w fun e w' => e = .returned (.int .i64 (left - n)) ∧ Below w.heap.size w w' := by
  have c_1 := (BoxF.new w [.slice a n c] 41).one.1
  have C := Lib.hid (fun W => szIntS_ok a n c left W h hl)
  have e0 : decide (left - (n : Int) < 0) = false := by simp; omega
  go_enter Tryd.func20, Tryd.ntmps20
  go_wp2_with fail
  refine (C.out _).mono ?_
  rintro e w1 ⟨rfl, rfl⟩
  go_wp2_with fail
  go_ret
  exact ⟨rfl, (Below.refl _ w).alloc (Nat.le_refl _) _⟩
theorem szRegion_big (a : Option Addr) (n c : Nat) (left : Int) (w : World) (h : left < (n : Int)) (hl : 0 ≤ left) (hn : n ≤ maxLen) :
    Calls Tryd.prog 20 #[.agg #[.slice a n c], .int .i64 left] w fun e w' => e = .returned (.int .i64 (-1)) ∧ Below w.heap.size w w' := by
  have c_1 := (BoxF.new w [.slice a n c] 41).one.1
  have C := Lib.hid (fun W => szIntS_big a n c left W h hl hn)
  go_enter Tryd.func20, Tryd.ntmps20
  go_wp2_with fail
  refine (C.out _).mono ?_
  rintro e w1 ⟨rfl, rfl⟩
  go_wp2_with fail
  go_ret
  exact ⟨rfl, (Below.refl _ w).alloc (Nat.le_refl _) _⟩
set_option maxHeartbeats 1000000 in
theorem toRegion_any (X : List Int) (n : Nat) (a : Option Addr) (c : Nat) (w : World) (h : RdI w a n X) (hn : n ≤ 1048576) :
    Calls Tryd.prog 21 #[.agg #[.slice a n c]] w fun e w' => ∃ g : Nat, e = .returned (.agg #[.slice (some ⟨g, 0, none⟩) n n]) ∧ OwnI w' w.heap.size (some ⟨g, 0, none⟩) n n X ∧ Below w.heap.size w w' := by
  have XA := (BoxF.new w [.slice a n c] 41).alloc (.cells #[.slice none 0 0] 26 (0, 0)) |>.alloc (.cells #[.slice none 0 0] 26 (0, 0))
  have XR := (BoxF.new (w.alloc (.cells #[.slice a n c] 41 (0, 0))) [.slice none 0 0] 26).alloc (.cells #[.slice none 0 0] 26 (0, 0))
  have XO := BoxF.new ((w.alloc (.cells #[.slice a n c] 41 (0, 0))).alloc (.cells #[.slice none 0 0] 26 (0, 0))) [.slice none 0 0] 26
  have hb : Below w.heap.size w (((w.alloc (.cells #[.slice a n c] 41 (0, 0))).alloc (.cells #[.slice none 0 0] 26 (0, 0))).alloc (.cells #[.slice none 0 0] 26 (0, 0))) := (((Below.refl _ w).alloc (Nat.le_refl _) _).alloc (by simp) _).alloc (by simp; omega) _
  have HR := Lib.hid (h.below hb)
  have HB := Lib.hid hb
  simp only [World.size_alloc] at XR XO
  have c_1 := XA.one.1
  have HXR := Lib.hid XR
  have HXO := Lib.hid XO
  clear h hb XA XR XO
  go_enter Tryd.func21, Tryd.ntmps21
  go_wp2_with fail
  refine (toIntS_any X n a c _ HR.out hn).mono ?_
  rintro e w1 ⟨g, rfl, ho, hb1⟩
  have hgg := (World.ownsRow.lt ho g rfl).1
  simp only [World.size_alloc] at hgg
  have XR := HXR.out.below hb1
  have XO := HXO.out.below hb1
  have HB1 := HB.out.trans (hb1.mono HB.out.size)
  obtain ⟨c_2, f_2⟩ := XO.one
  obtain ⟨c_3, f_3⟩ := XR.one
  have f2 := f_2 0
  have f3 := f_3 0
  have XO2 := XO.set 0 (.slice (some ⟨g, 0, none⟩) n n)
  have XR2 := XR.far (b' := w.heap.size + 1 + 1) 0 (.slice (some ⟨g, 0, none⟩) n n) (by omega)
  have HG2 := grownBy_set w1 (w.heap.size + 1 + 1) 0 (.slice (some ⟨g, 0, none⟩) n n)
  have HO2 := OwnI.kept (OwnI.low ho (B' := w.heap.size) (by simp; omega)) HG2 (by right; simp [Value.ownBlock]; omega)
  have HB2 := HB1.grown HG2 HB1.size (fun q hq => by cases hq; omega)
  have d_2 := XO2.one.1
  obtain ⟨d_3, g_3⟩ := XR2.one
  have g3 := g_3 0
  have XR3 := XR2.set 0 (.slice (some ⟨g, 0, none⟩) n n)
  have z0 := XR3.one.1
  have HG3 := grownBy_set (w1.setCell ⟨w.heap.size + 1 + 1, 0, none⟩ (.slice (some ⟨g, 0, none⟩) n n)) (w.heap.size + 1) 0 (.slice (some ⟨g, 0, none⟩) n n)
  have HO9 := Lib.hid (OwnI.kept HO2 HG3 (by right; simp [Value.ownBlock]; omega))
  have HB9 := Lib.hid (HB2.grown HG3 HB2.size (fun q hq => by cases hq; omega))
  clear XO2 XR2 XR3 HG2 HG3 HO2 HB2 ho hb1 XR XO HB1 f_2 f_3 g_3
  go_wp2_with fail
  exact bodyPost_ret (v := .agg #[.slice (some ⟨g, 0, none⟩) n n]) (by simp [results, Tryd.results21, go_sem, z0]) rfl ⟨_, rfl, HO9.out, HB9.out⟩
theorem eqIntS_b (X : List Int) (n : Nat) (a1 a2 : Option Addr) (c1 c2 : Nat) (w : World) (h1 : RdI w a1 n X) (h2 : RdI w a2 n X) (hn : n ≤ 1048577) :
    Calls Tryd.prog 67 #[.slice a1 n c1, .slice a2 n c2] w fun e w' => e = .returned (.bool true) ∧ Below w.heap.size w w' :=
  (eqIntS_true X n a1 a2 c1 c2 w h1 h2 hn).mono (fun e w' ⟨h1, q, h2⟩ => ⟨h1, by subst h2; exact below_drewN' (Below.refl _ _) q⟩)
theorem held1_b (n : Nat) (a : Option Addr) (c : Nat) (w : World) (h : RdI w a n (ones n)) (hn : n ≤ 1048577) :
    Calls Tryd.prog 75 #[.slice a n c, .int .i64 1] w fun e w' => e = .returned (.int .i64 (1 + (n : Int))) ∧ Below w.heap.size w w' :=
  (held1 n a c w h hn).mono (fun e w' ⟨h1, q, h2⟩ => ⟨h1, by subst h2; exact below_drewN' (Below.refl _ _) q⟩)
/-- Marks from any number on; what the row then holds is not told. -/
theorem markRegion_k (X : List Int) (n B cap k0 : Nat) (a : Option Addr) (w : World) (hown : OwnI w B a n cap X) (hn : n ≤ 1048577) (hk0 : 1 ≤ k0) (hk1 : k0 ≤ 100000000) :
    Calls Tryd.prog 24 #[.agg #[.slice a n cap], .int .i64 (k0 : Int)] w fun e w' => e = .returned (.int .i64 ((k0 : Int) + (n : Int))) ∧ w.grownBy w' (Value.slice a n cap).ownBlock := by
  have XA := BoxF.new w [.slice a n cap] 26
  have h1 := hown.below ((Below.refl _ w).alloc (Nat.le_refl _) (.cells #[.slice a n cap] 26 (0, 0)))
  have HG := Lib.hid (World.grownBy_alloc w (.cells #[.slice a n cap] 26 (0, 0)) (Value.slice a n cap).ownBlock)
  have c_1 := XA.one.1
  have hcall : Calls Tryd.prog 68 #[.slice a n cap, .int .i64 (k0 : Int)] (w.alloc (.cells #[.slice a n cap] 26 (0, 0))) fun e w' => e = .returned (.int .i64 ((k0 : Int) + (n : Int))) ∧ (w.alloc (.cells #[.slice a n cap] 26 (0, 0))).grownBy w' (Value.slice a n cap).ownBlock := by
    rcases h1.shape with ⟨rfl, rfl, rfl, _⟩ | ⟨g, rfl, _, _⟩
    · clear h1 hown HG XA c_1
      go_enter Tryd.func68, Tryd.ntmps68
      go_wp2
      refine wp_loop_rounds 1 ?_
      rw [rounds_succ]
      go_wp2
      go_ret
      exact ⟨by simp, World.grownBy.refl _ _⟩
    · exact (markIntS_row _ n g cap B k0 _ h1 hn hk0 hk1).mono (fun e w' ⟨h1, _, h3⟩ => ⟨h1, h3⟩)
  have HC := Lib.hid hcall
  clear XA hown h1 hcall
  go_enter Tryd.func24, Tryd.ntmps24
  go_wp2_with fail
  refine HC.out.mono ?_
  rintro e w1 ⟨rfl, hg1⟩
  have HG1 := Lib.hid (HG.out.trans hg1)
  clear hg1
  go_wp2_with fail
  go_ret
  exact ⟨rfl, HG1.out⟩
end Go.Proofs.YthapidnjioindaaDoor
