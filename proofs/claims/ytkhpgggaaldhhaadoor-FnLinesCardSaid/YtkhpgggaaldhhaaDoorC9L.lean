/- Contracts: the laws' eqRegion, markRegion, heldRegion, toRegion and szRegion. -/
import Derived.Test.YtkhpgggaaldhhaaDoorC9R
namespace Go.Proofs.YtkhpgggaaldhhaaDoor
open Go.RowKit

theorem fix_below {W W1 : World} {m : Nat} (h : Below W.heap.size W W1) : Below W.heap.size W (W1.drewN m) := below_drewN' h m
theorem eqRegion_true (X : List Int) (n : Nat) (a1 a2 : Option Addr) (c1 c2 : Nat) (w : World) (h1 : RdI w a1 n X) (h2 : RdI w a2 n X) (hn : n ≤ 1048577) :
    Calls Tryd.prog 42 #[.agg #[.slice a1 n c1], .agg #[.slice a2 n c2]] w fun e w' => e = .returned (.bool true) ∧ Below w.heap.size w w' := by
  have XA := (BoxF.new w [.slice a1 n c1] 35).alloc (.cells #[.slice a2 n c2] 35 (0, 0))
  have XB := BoxF.new (w.alloc (.cells #[.slice a1 n c1] 35 (0, 0))) [.slice a2 n c2] 35
  have hb : Below w.heap.size w ((w.alloc (.cells #[.slice a1 n c1] 35 (0, 0))).alloc (.cells #[.slice a2 n c2] 35 (0, 0))) := ((Below.refl _ w).alloc (Nat.le_refl _) _).alloc (by simp) _
  have R1 := h1.below hb
  have R2 := h2.below hb
  have HB := Lib.hid hb
  have HR1 := Lib.hid R1
  have HR2 := Lib.hid R2
  simp only [World.size_alloc] at XB
  have c_1 := XA.one.1
  have c_2 := XB.one.1
  clear h1 h2 hb R1 R2 XA XB
  go_enter Tryd.func42, Tryd.ntmps42
  go_wp2_with fail
  refine (eqIntS_true X n a1 a2 c1 c2 _ HR1.out HR2.out hn).mono ?_
  rintro e w1 ⟨rfl, m, rfl⟩
  go_wp2_with fail
  go_ret
  exact ⟨rfl, below_drewN' HB.out m⟩
theorem markRegion_any (X : List Int) (n B cap : Nat) (a : Option Addr) (w : World) (hown : OwnI w B a n cap X) (hn : n ≤ 1048577) :
    Calls Tryd.prog 43 #[.agg #[.slice a n cap], .int .i64 1] w fun e w' => e = .returned (.int .i64 (1 + (n : Int))) ∧ OwnI w' B a n cap (ones n) ∧ w.grownBy w' (Value.slice a n cap).ownBlock := by
  have XA := BoxF.new w [.slice a n cap] 35
  have H1 := Lib.hid (hown.below ((Below.refl _ w).alloc (Nat.le_refl _) (.cells #[.slice a n cap] 35 (0, 0))))
  have HG := Lib.hid (World.grownBy_alloc w (.cells #[.slice a n cap] 35 (0, 0)) (Value.slice a n cap).ownBlock)
  have c_1 := XA.one.1
  clear XA hown
  go_enter Tryd.func43, Tryd.ntmps43
  go_wp2_with fail
  refine (mark1 X n B cap a _ H1.out hn).mono ?_
  rintro e w1 ⟨rfl, o1, hg1⟩
  have HO := Lib.hid o1
  have HG1 := Lib.hid (HG.out.trans hg1)
  clear o1 hg1
  go_wp2_with fail
  go_ret
  exact ⟨rfl, HO.out, HG1.out⟩
theorem heldRegion_any (n : Nat) (a : Option Addr) (c : Nat) (w : World) (h : RdI w a n (ones n)) (hn : n ≤ 1048577) :
    Calls Tryd.prog 44 #[.agg #[.slice a n c], .int .i64 1] w fun e w' => e = .returned (.int .i64 (1 + (n : Int))) ∧ Below w.heap.size w w' := by
  have XA := BoxF.new w [.slice a n c] 35
  have hb := (Below.refl _ w).alloc (Nat.le_refl _) (.cells #[.slice a n c] 35 (0, 0))
  have H1 := Lib.hid (h.below hb)
  have HB := Lib.hid hb
  have c_1 := XA.one.1
  have e0 : decide ((1 : Int) + (n : Int) < 0) = false := by simp; omega
  clear XA h hb
  go_enter Tryd.func44, Tryd.ntmps44
  go_wp2_with fail
  refine (held1 n a c _ H1.out hn).mono ?_
  rintro e w1 ⟨rfl, m, rfl⟩
  go_wp2_with fail
  go_ret
  exact ⟨rfl, below_drewN' HB.out m⟩
theorem eqIntS_b (X : List Int) (n : Nat) (a1 a2 : Option Addr) (c1 c2 : Nat) (w : World) (h1 : RdI w a1 n X) (h2 : RdI w a2 n X) (hn : n ≤ 1048577) :
    Calls Tryd.prog 78 #[.slice a1 n c1, .slice a2 n c2] w fun e w' => e = .returned (.bool true) ∧ Below w.heap.size w w' :=
  (eqIntS_true X n a1 a2 c1 c2 w h1 h2 hn).mono (fun e w' ⟨h1, q, h2⟩ => ⟨h1, by subst h2; exact below_drewN' (Below.refl _ _) q⟩)
theorem held1_b (n : Nat) (a : Option Addr) (c : Nat) (w : World) (h : RdI w a n (ones n)) (hn : n ≤ 1048577) :
    Calls Tryd.prog 80 #[.slice a n c, .int .i64 1] w fun e w' => e = .returned (.int .i64 (1 + (n : Int))) ∧ Below w.heap.size w w' :=
  (held1 n a c w h hn).mono (fun e w' ⟨h1, q, h2⟩ => ⟨h1, by subst h2; exact below_drewN' (Below.refl _ _) q⟩)
/-- Marks from any number on; what the row then holds is not told. -/
theorem markRegion_k (X : List Int) (n B cap k0 : Nat) (a : Option Addr) (w : World) (hown : OwnI w B a n cap X) (hn : n ≤ 1048577) (hk0 : 1 ≤ k0) (hk1 : k0 ≤ 100000000) :
    Calls Tryd.prog 43 #[.agg #[.slice a n cap], .int .i64 (k0 : Int)] w fun e w' => e = .returned (.int .i64 ((k0 : Int) + (n : Int))) ∧ w.grownBy w' (Value.slice a n cap).ownBlock := by
  have XA := BoxF.new w [.slice a n cap] 35
  have h1 := hown.below ((Below.refl _ w).alloc (Nat.le_refl _) (.cells #[.slice a n cap] 35 (0, 0)))
  have HG := Lib.hid (World.grownBy_alloc w (.cells #[.slice a n cap] 35 (0, 0)) (Value.slice a n cap).ownBlock)
  have c_1 := XA.one.1
  have hcall : Calls Tryd.prog 79 #[.slice a n cap, .int .i64 (k0 : Int)] (w.alloc (.cells #[.slice a n cap] 35 (0, 0))) fun e w' => e = .returned (.int .i64 ((k0 : Int) + (n : Int))) ∧ (w.alloc (.cells #[.slice a n cap] 35 (0, 0))).grownBy w' (Value.slice a n cap).ownBlock := by
    rcases h1.shape with ⟨rfl, rfl, rfl, _⟩ | ⟨g, rfl, _, _⟩
    · clear h1 hown HG XA c_1
      go_enter Tryd.func79, Tryd.ntmps79
      go_wp2
      refine wp_loop_rounds 1 ?_
      rw [rounds_succ]
      go_wp2
      go_ret
      exact ⟨by simp, World.grownBy.refl _ _⟩
    · exact (markIntS_row _ n g cap B k0 _ h1 hn hk0 hk1).mono (fun e w' ⟨h1, _, h3⟩ => ⟨h1, h3⟩)
  have HC := Lib.hid hcall
  clear XA hown h1 hcall
  go_enter Tryd.func43, Tryd.ntmps43
  go_wp2_with fail
  refine HC.out.mono ?_
  rintro e w1 ⟨rfl, hg1⟩
  have HG1 := Lib.hid (HG.out.trans hg1)
  clear hg1
  go_wp2_with fail
  go_ret
  exact ⟨rfl, HG1.out⟩
end Go.Proofs.YtkhpgggaaldhhaaDoor
