/- Several small texts in one: C9R, C9S, C9T, C9V. -/
import Derived.Test.YthapidnjioindaaDoorKIA
import Derived.Test.YthapidnjioindaaDoorKIB
import Derived.Test.YthapidnjioindaaDoorKC
import Derived.Deep.RegionHeld3
namespace Go.Proofs.YthapidnjioindaaDoor
open Go.RowKit

/-- An answer that is a region of these rows and a truth value, in memory of its own. -/
def AnsRB (W : World) (X : List Int) (n : Nat) (ok : Bool) (e : Ending) (w' : World) : Prop := ∃ (a : Option Addr) (c : Nat), e = .returned (.tuple #[.agg #[.slice a n c], .bool ok]) ∧ OwnI w' W.heap.size a n c X ∧ Below W.heap.size W w'
theorem rowsOfR_len (f : Nat → Nat) : (rowsOfR f).length = 24 := by simp [rowsOfR]
theorem reg_shB : regN shB = shN := by
  funext y; unfold regN shN; simp

theorem shield_impl (w : World) : Calls Tryd.prog 60 #[] w (AnsR w shN) := by
  have b0 := BoxF.new w [.slice none 0 0] 26
  have hb0 : Below w.heap.size w (w.alloc (.cells #[.slice none 0 0] 26 (0, 0))) := (Below.refl _ w).alloc (Nat.le_refl _) _
  have X0 := Lib.hid b0
  have HB0 := Lib.hid hb0
  clear b0 hb0
  go_enter Tryd.func60, Tryd.ntmps60
  go_wp2_with fail
  refine (whereIn shB _ (fun W _ x y hx hy => (inShield_impl x y W).mono (fun e w' h => ⟨by rw [h.1, shZ_nat hx hy], by rw [h.2]; exact Below.refl _ _⟩))).mono ?_
  rintro e w1 ⟨g, rfl, ho, hb1⟩
  rw [reg_shB] at ho
  have X1 := X0.out.below hb1
  have HB1 := HB0.out.trans (hb1.mono HB0.out.size)
  obtain ⟨c0, f0⟩ := X1.one
  have hf0 := f0 0
  have X9 := X1.set 0 (.slice (some ⟨g, 0, none⟩) 24 24)
  obtain ⟨z0, _⟩ := X9.one
  have HG := grownBy_set w1 w.heap.size 0 (.slice (some ⟨g, 0, none⟩) 24 24)
  have hgg := (World.ownsRow.lt ho g rfl).1
  simp only [World.size_alloc] at hgg
  have HO9 := Lib.hid (OwnI.kept (OwnI.low ho (B' := w.heap.size) (by simp)) HG (by right; simp [Value.ownBlock]; omega))
  have HB9 := Lib.hid (HB1.grown HG HB1.size (fun q hq => by cases hq; exact Nat.le_refl _))
  clear X9 HG ho hb1 f0 X1 HB1 X0 HB0
  go_wp2_with fail
  exact bodyPost_ret (v := .agg #[.slice (some ⟨g, 0, none⟩) 24 24]) (by simp [results, Tryd.results60, go_sem, z0]) rfl ⟨_, rfl, HO9.out, HB9.out⟩

set_option maxHeartbeats 1000000 in
theorem l9Empty_any (w : World) : Calls Tryd.prog 79 #[] w fun e w' => ∃ g : Nat, e = .returned (.agg #[.slice (some ⟨g, 0, none⟩) 24 24]) ∧ OwnI w' w.heap.size (some ⟨g, 0, none⟩) 24 24 (List.replicate 24 0) ∧ Below w.heap.size w w' := by
  obtain ⟨i0, hi, hz0, hz1, hz2⟩ := info_parts infoI
  have b0 := BoxF.new w [.slice none 0 0] 26
  have hb0 : Below w.heap.size w (w.alloc (.cells #[.slice none 0 0] 26 (0, 0))) := (Below.refl _ w).alloc (Nat.le_refl _) _
  have HB0 := Lib.hid hb0
  have X0 := Lib.hid b0
  clear b0 hb0
  go_enter Tryd.func79, Tryd.ntmps79
  go_wp2_with (at_make; refine wpList_make_full _ rfl _ _ 24 rfl (w.heap.size + 1) 3 i0 (.int .i64 0) 1 Tryd.underlying24 hi hz0 hz1 .i64 .i64 24 24 24 rfl rfl rfl rfl (by rw [hz2]; omega) (by unfold maxLen; omega) (by simp) ?_; intro w1 hown1 hgr1; have X1 := X0.out.kept hgr1 (by simp); obtain ⟨c0, f0⟩ := X1.one; have hf0 := f0 0; have X9 := X1.set 0 (.slice (some ⟨w.heap.size + 1, 0, none⟩) 24 24); obtain ⟨z0, _⟩ := X9.one; have HX1 := Lib.hid X1; clear X1 X9)
  have hfil : OwnI w1 (w.heap.size + 1) (some ⟨w.heap.size + 1, 0, none⟩) 24 24 (List.replicate 24 0) := by
    unfold OwnI
    rw [List.map_replicate, ← toList_madeCells_one]
    rw [Nat.mul_one] at hown1
    simp only [World.size_alloc] at hown1
    exact hown1
  have HB1 := HB0.out.grown hgr1 (by simp) (by simp)
  have HG := grownBy_set w1 w.heap.size 0 (.slice (some ⟨w.heap.size + 1, 0, none⟩) 24 24)
  have HO9 := Lib.hid (OwnI.kept (OwnI.low hfil (B' := w.heap.size) (by omega)) HG (by right; simp [Value.ownBlock]))
  have HB9 := Lib.hid (HB1.grown HG HB1.size (fun q hq => by cases hq; exact Nat.le_refl _))
  clear HG hfil f0 HX1 HB1 X0 HB0 hown1 hgr1
  exact bodyPost_ret (v := .agg #[.slice (some ⟨w.heap.size + 1, 0, none⟩) 24 24]) (by simp [results, Tryd.results79, go_sem, z0]) rfl ⟨_, rfl, HO9.out, HB9.out⟩
theorem grownBy_drewN {w w' : World} {r : Option Nat} (h : w.grownBy w' r) (m : Nat) : w.grownBy (w'.drewN m) r := ⟨h.os, h.tape, h.output, h.size, h.block⟩
set_option maxRecDepth 100000 in
set_option maxHeartbeats 1000000 in
theorem l9Add_any (X : List Int) (B g cap x y N : Nat) (w : World) (h : OwnI w B (some ⟨g, 0, none⟩) 24 cap X) (hx : x < 20) (hy : y < 24) (hN : X[y]? = some (N : Int)) (hN2 : N < 1048576) :
    Calls Tryd.prog 135 #[.agg #[.slice (some ⟨g, 0, none⟩) 24 cap], .int .i64 (x : Int), .int .i64 (y : Int)] w fun e w' => e = .returned (.tuple #[]) ∧ OwnI w' B (some ⟨g, 0, none⟩) 24 cap (if shB x y then X.set y ((N ||| 2 ^ x : Nat) : Int) else X) ∧ w.grownBy w' (some g) := by
  have hg := (World.ownsRow.lt h g rfl).2
  have CI := Lib.hid (fun W => l9In_any (x : Int) (y : Int) W)
  rw [shZ_nat hx hy] at CI
  have b0 := BoxF.new w [.slice (some ⟨g, 0, none⟩) 24 cap] 26
  have hal := World.grownBy_alloc w (.cells #[.slice (some ⟨g, 0, none⟩) 24 cap] 26 (0, 0)) (some g)
  have h1 : OwnI (w.alloc (.cells #[.slice (some ⟨g, 0, none⟩) 24 cap] 26 (0, 0))) B (some ⟨g, 0, none⟩) 24 cap X := h.below ((Below.refl _ w).alloc (Nat.le_refl _) _)
  obtain ⟨c0, f0⟩ := b0.one
  have hf0 := f0 0
  have hp2 : 2 ^ x < 1048576 := by
    have := Nat.pow_lt_pow_right (a := 2) (by decide) hx
    omega
  have hor := i64_or_nat N (2 ^ x) (by omega) (by omega)
  have hc1 := h1.cellAt y hy
  rw [List.getElem?_map, hN] at hc1
  simp only [Option.map_some] at hc1
  have hf1 := h1.frozenAt y
  have HO3 := h.stored y (.int .i64 ((N ||| 2 ^ x : Nat) : Int))
  have HAL := Lib.hid hal
  have H1 := Lib.hid h1
  have HST := Lib.hid HO3
  have HOR := Lib.hid hor
  have HF1 := Lib.hid hf1
  have HC1 := Lib.hid hc1
  clear h hal h1 HO3 f0 b0 hor hf1 hc1
  cases hs : shB x y
  · rw [hs] at CI
    go_enter Tryd.func135, Tryd.ntmps135
    go_wp2_with fail
    refine (CI.out _).mono ?_
    rintro e w' ⟨rfl, rfl⟩
    go_wp2_with fail
    go_end0
    exact ⟨rfl, by simpa using H1.out, HAL.out⟩
  · rw [hs] at CI
    go_enter Tryd.func135, Tryd.ntmps135
    go_wp2_with fail
    refine (CI.out _).mono ?_
    rintro e w' ⟨rfl, rfl⟩
    go_wp2_with fail
    have hf1 := HF1.out
    have hc1 := HC1.out
    go_region
    rw [wrap_pow hp2, HOR.out]
    have HA := World.grownBy_alloc (w.setCell ⟨g, y, none⟩ (.int .i64 ((N ||| 2 ^ x : Nat) : Int))) (.cells #[.slice (some ⟨g, 0, none⟩) 24 cap] 26 (0, 0)) (some g)
    have HO4 : OwnI (w.setCell ⟨g, y, none⟩ (.int .i64 ((N ||| 2 ^ x : Nat) : Int))) B (some ⟨g, 0, none⟩) 24 cap (X.set y ((N ||| 2 ^ x : Nat) : Int)) := by
      unfold OwnI
      rw [List.map_set]
      exact HST.out.1
    have HO5 := Lib.hid ((HO4.below ((Below.refl _ _).alloc (Nat.le_refl _) (.cells #[.slice (some ⟨g, 0, none⟩) 24 cap] 26 (0, 0)))).drewN 1)
    have HG5 := Lib.hid (HST.out.2.trans HA)
    clear HA HO4 hf1 hc1
    go_wp2_with fail
    go_end0
    exact ⟨rfl, HO5.out, grownBy_drewN HG5.out 1⟩
end Go.Proofs.YthapidnjioindaaDoor
namespace Go.Proofs.YthapidnjioindaaDoor
open Go.RowKit

theorem isOrd_any (x : Int) (w : World) (p : Bool) (hp : decide (1 ≤ x ∧ x ≤ 7) = p) :
    Calls Tryd.prog 108 #[.int .i64 x] w fun e w' => e = .returned (.bool p) ∧ w = w' := by
  obtain ⟨p1, e1⟩ : ∃ p, decide (1 ≤ x) = p := ⟨_, rfl⟩
  obtain ⟨p2, e2⟩ : ∃ p, decide (x ≤ 7) = p := ⟨_, rfl⟩
  have hR : (p1 && p2) = p := by rw [← hp, ← e1, ← e2]; by_cases h : 1 ≤ x <;> by_cases h' : x ≤ 7 <;> simp [h, h']
  clear hp
  subst hR
  cases p1
  all_goals
    go_enter Tryd.func108, Tryd.ntmps108
    go_wp2_with fail
    go_ret
    exact ⟨by first | rfl | simp, rfl⟩


end Go.Proofs.YthapidnjioindaaDoor
namespace Go.Proofs.YthapidnjioindaaDoor
open Go.RowKit

set_option maxRecDepth 100000 in
set_option maxHeartbeats 4000000 in
theorem shield_spec (w : World) : Calls Tryd.prog 136 #[] w (AnsR w shN) := by
  have b0 := BoxF.new w [.slice none 0 0] 26
  have X0 := Lib.hid b0
  have HB0 := Lib.hid ((Below.refl _ w).alloc (Nat.le_refl _) (.cells #[.slice none 0 0] 26 (0, 0)))
  clear b0
  have er : regN (fun _ _ => true) = shN := by funext y; unfold regN shN; simp
  rw [← er]
  clear er
  go_enter Tryd.func136, Tryd.ntmps136
  go_wp2_with fail
  refine (l9Empty_any _).mono ?_
  rintro e w1 ⟨g, rfl, ho, hb1⟩
  have hgg := (World.ownsRow.lt ho g rfl)
  simp only [World.size_alloc] at hgg
  obtain ⟨q1, hq1⟩ : ∃ q, w1.heap.size = q := ⟨_, rfl⟩
  have HO := Lib.hid (OwnI.below (OwnI.low ho (B' := w.heap.size) (by simp)) ((Below.refl _ w1).alloc (Nat.le_refl _) (.cells #[.slice (some ⟨g, 0, none⟩) 24 24] 26 (0, 0))))
  have HX := Lib.hid ((X0.out.below hb1).alloc (.cells #[.slice (some ⟨g, 0, none⟩) 24 24] 26 (0, 0)))
  have HY := Lib.hid (BoxF.new w1 [.slice (some ⟨g, 0, none⟩) 24 24] 26)
  have HB1 := HB0.out.trans (hb1.mono HB0.out.size)
  have HB := Lib.hid (HB1.alloc HB1.size (.cells #[.slice (some ⟨g, 0, none⟩) 24 24] 26 (0, 0)))
  rw [← stR_start (fun _ _ => true)] at HO
  rw [hq1] at HY hgg
  clear ho hb1 HB1 X0 HB0
  go_wp2_with fail
  go_loopw [2] (fun i wr => ∃ y : Nat, y ≤ 24 ∧ i = .int .i64 (y : Int) ∧ Hid (OwnI wr w.heap.size (some ⟨g, 0, none⟩) 24 24 (stR (fun _ _ => true) y 0)) ∧ Hid (BoxF wr w.heap.size [.slice none 0 0] 26) ∧ Hid (BoxF wr q1 [.slice (some ⟨g, 0, none⟩) 24 24] 26) ∧ Hid (Below w.heap.size w wr)) (fun i _ => 24 - (intOf i).toNat)
  case atStart => exact ⟨0, by omega, rfl, HO, HX, HY, HB⟩
  case round =>
    obtain ⟨y, hy, rfl, HO, HX, HY, HB⟩ := hrel
    by_cases hlt : y < 24
    · have ely : decide ((y : Int) < 24) = true := decide_eq_true (by omega)
      go_wp2_with fail
      go_loopw [3] (fun i wr => ∃ x : Nat, x ≤ 20 ∧ i = .int .i64 (x : Int) ∧ Hid (OwnI wr w.heap.size (some ⟨g, 0, none⟩) 24 24 (stR (fun _ _ => true) y x)) ∧ Hid (BoxF wr w.heap.size [.slice none 0 0] 26) ∧ Hid (BoxF wr q1 [.slice (some ⟨g, 0, none⟩) 24 24] 26) ∧ Hid (Below w.heap.size w wr)) (fun i _ => 20 - (intOf i).toNat)
      case atStart => exact ⟨0, by omega, rfl, HO, HX, HY, HB⟩
      case round =>
        obtain ⟨x, hx, rfl, HO, HX, HY, HB⟩ := hrel
        by_cases hlx : x < 20
        · have elx : decide ((x : Int) < 20) = true := decide_eq_true (by omega)
          have c1 := HY.out.one.1
          have HP := Lib.hid (show (fun (_ _ : Nat) => true) x y = true from rfl)
          go_wp2_with fail
          refine (l9Add_any _ w.heap.size g 24 x y _ _ HO.out hlx hlt (stR_at (fun _ _ => true) x hlt) (rowN_ltk _ hx)).mono ?_
          rintro e w3 ⟨rfl, ho3, hg3⟩
          have HX3 := Lib.hid (HX.out.kept hg3 (by simp; omega))
          have HY3 := Lib.hid (HY.out.kept hg3 (by simp; omega))
          have HB3 := Lib.hid (HB.out.grown hg3 HB.out.size (fun q hq => by cases hq; omega))
          have hstep : (if shB x y = true then (stR (fun _ _ => true) y x).set y ((rowN (fun i => shB i y && (fun _ _ => true) i y) x ||| 2 ^ x : Nat) : Int) else stR (fun _ _ => true) y x) = stR (fun _ _ => true) y (x + 1) := by
            cases h1 : shB x y
            · exact (stR_skip _ (by rw [h1]; rfl)).symm
            · rw [if_pos rfl, rowN_or]; exact stR_set _ hlt (by rw [h1]; first | rfl | exact HP.out)
          rw [hstep] at ho3
          have HO3 := Lib.hid ho3
          clear ho3 hg3 HO HX HY HB c1 hstep
          go_wp2_with fail
          go_roundw
          case rel => exact ⟨x + 1, by omega, by go_num, HO3, HX3, HY3, HB3⟩
          case measure => simp [intOf]; omega
        · have elx : decide ((x : Int) < 20) = false := decide_eq_false (by omega)
          obtain rfl : x = 20 := by omega
          rw [stR_next] at HO
          go_wp2_with fail
          go_roundw
          case rel => exact ⟨y + 1, by omega, by go_num, HO, HX, HY, HB⟩
          case measure => simp [intOf]; omega
    · have ely : decide ((y : Int) < 24) = false := decide_eq_false (by omega)
      obtain rfl : y = 24 := by omega
      rw [stR_all] at HO
      have c1 := HY.out.one.1
      obtain ⟨c0, f0⟩ := HX.out.one
      have hf0 := f0 0
      have X9 := HX.out.set 0 (.slice (some ⟨g, 0, none⟩) 24 24)
      obtain ⟨z0, _⟩ := X9.one
      have HG := grownBy_set wr w.heap.size 0 (.slice (some ⟨g, 0, none⟩) 24 24)
      have HO9 := Lib.hid (OwnI.kept HO.out HG (by right; simp [Value.ownBlock]; omega))
      have HB9 := Lib.hid (HB.out.grown HG HB.out.size (fun q hq => by cases hq; omega))
      clear X9 HG HO HX HB HY f0
      go_wp2_with fail
      exact bodyPost_ret (v := .agg #[.slice (some ⟨g, 0, none⟩) 24 24]) (by simp [results, Tryd.results136, go_sem, z0]) rfl ⟨_, rfl, HO9.out, HB9.out⟩

set_option maxRecDepth 100000 in
set_option maxHeartbeats 4000000 in
theorem part_spec (d p : Int) (w : World) (hd0 : 0 ≤ d) (hd1 : d ≤ 7) (hp0 : 0 ≤ p) (hp1 : p ≤ 1) : Calls Tryd.prog 133 #[.int .i64 d, .int .i64 p] w (AnsRB w (rowsOfR (regN (fun i j => (firstB d i j == (p == 0))))) 24 true) := by
  have b0 := BoxF.new w [.slice none 0 0] 26
  have X0 := Lib.hid b0
  have HB0 := Lib.hid ((Below.refl _ w).alloc (Nat.le_refl _) (.cells #[.slice none 0 0] 26 (0, 0)))
  clear b0
  have CD := Lib.hid (fun W => in_any d 0 7 W true (decide_eq_true ⟨hd0, hd1⟩))
  have CQ := Lib.hid (fun W => in_any p 0 1 W true (decide_eq_true ⟨hp0, hp1⟩))
  go_enter Tryd.func133, Tryd.ntmps133
  go_wp2_with fail
  refine (CD.out _).mono ?_
  rintro e w' ⟨rfl, rfl⟩
  go_wp2_with fail
  refine (CQ.out _).mono ?_
  rintro e w' ⟨rfl, rfl⟩
  go_wp2_with fail
  refine (l9Empty_any _).mono ?_
  rintro e w1 ⟨g, rfl, ho, hb1⟩
  have hgg := (World.ownsRow.lt ho g rfl)
  simp only [World.size_alloc] at hgg
  obtain ⟨q1, hq1⟩ : ∃ q, w1.heap.size = q := ⟨_, rfl⟩
  have HO := Lib.hid (OwnI.below (OwnI.low ho (B' := w.heap.size) (by simp)) ((Below.refl _ w1).alloc (Nat.le_refl _) (.cells #[.slice (some ⟨g, 0, none⟩) 24 24] 26 (0, 0))))
  have HX := Lib.hid ((X0.out.below hb1).alloc (.cells #[.slice (some ⟨g, 0, none⟩) 24 24] 26 (0, 0)))
  have HY := Lib.hid (BoxF.new w1 [.slice (some ⟨g, 0, none⟩) 24 24] 26)
  have HB1 := HB0.out.trans (hb1.mono HB0.out.size)
  have HB := Lib.hid (HB1.alloc HB1.size (.cells #[.slice (some ⟨g, 0, none⟩) 24 24] 26 (0, 0)))
  rw [← stR_start (fun i j => (firstB d i j == (p == 0)))] at HO
  rw [hq1] at HY hgg
  clear ho hb1 HB1 X0 HB0
  go_wp2_with fail
  go_loopw [7] (fun i wr => ∃ y : Nat, y ≤ 24 ∧ i = .int .i64 (y : Int) ∧ Hid (OwnI wr w.heap.size (some ⟨g, 0, none⟩) 24 24 (stR (fun i j => (firstB d i j == (p == 0))) y 0)) ∧ Hid (BoxF wr w.heap.size [.slice none 0 0] 26) ∧ Hid (BoxF wr q1 [.slice (some ⟨g, 0, none⟩) 24 24] 26) ∧ Hid (Below w.heap.size w wr)) (fun i _ => 24 - (intOf i).toNat)
  case atStart => exact ⟨0, by omega, rfl, HO, HX, HY, HB⟩
  case round =>
    obtain ⟨y, hy, rfl, HO, HX, HY, HB⟩ := hrel
    by_cases hlt : y < 24
    · have ely : decide ((y : Int) < 24) = true := decide_eq_true (by omega)
      go_wp2_with fail
      go_loopw [8] (fun i wr => ∃ x : Nat, x ≤ 20 ∧ i = .int .i64 (x : Int) ∧ Hid (OwnI wr w.heap.size (some ⟨g, 0, none⟩) 24 24 (stR (fun i j => (firstB d i j == (p == 0))) y x)) ∧ Hid (BoxF wr w.heap.size [.slice none 0 0] 26) ∧ Hid (BoxF wr q1 [.slice (some ⟨g, 0, none⟩) 24 24] 26) ∧ Hid (Below w.heap.size w wr)) (fun i _ => 20 - (intOf i).toNat)
      case atStart => exact ⟨0, by omega, rfl, HO, HX, HY, HB⟩
      case round =>
        obtain ⟨x, hx, rfl, HO, HX, HY, HB⟩ := hrel
        by_cases hlx : x < 20
        · have elx : decide ((x : Int) < 20) = true := decide_eq_true (by omega)
          have CP := Lib.hid (fun W => l9Part_any d x y W hlx hlt hd0 hd1)
          have hpe : decide ((if firstB d x y = true then (0 : Int) else 1) = p) = (firstB d x y == (p == 0)) := by
            have hp : p = 0 ∨ p = 1 := by omega
            rcases hp with rfl | rfl <;> cases firstB d x y <;> simp
          obtain ⟨v, hv⟩ : ∃ v, (if firstB d x y = true then (0 : Int) else 1) = v := ⟨_, rfl⟩
          rw [hv] at CP hpe
          go_wp2_with fail
          refine (CP.out _).mono ?_
          rintro e w2 ⟨rfl, hb2⟩
          have HO2 := Lib.hid (HO.out.below hb2)
          have HX2 := Lib.hid (HX.out.below hb2)
          have HY2 := Lib.hid (HY.out.below hb2)
          have HB2 := Lib.hid (HB.out.trans (hb2.mono HB.out.size))
          clear hb2 HO HX HY HB CP
          have HO := HO2
          have HX := HX2
          have HY := HY2
          have HB := HB2
          clear HO2 HX2 HY2 HB2
          have c1 := HY.out.one.1
          have hvp : (v == p) = (firstB d x y == (p == 0)) := by rw [← hpe]; rfl
          cases hpq : (firstB d x y == (p == 0))
          · have HP := Lib.hid (show (fun i j => (firstB d i j == (p == 0))) x y = false from hpq)
            rw [hpq] at hvp
            clear hpq hpe
            go_wp2_with fail
            go_roundw
            case rel => exact ⟨x + 1, by omega, by go_num, by rw [stR_skip _ (by rw [HP.out]; simp)]; exact HO, HX, HY, HB⟩
            case measure => simp [intOf]; omega
          · have HP := Lib.hid (show (fun i j => (firstB d i j == (p == 0))) x y = true from hpq)
            rw [hpq] at hvp
            clear hpq hpe
            go_wp2_with fail
            refine (l9Add_any _ w.heap.size g 24 x y _ _ HO.out hlx hlt (stR_at (fun i j => (firstB d i j == (p == 0))) x hlt) (rowN_ltk _ hx)).mono ?_
            rintro e w3 ⟨rfl, ho3, hg3⟩
            have HX3 := Lib.hid (HX.out.kept hg3 (by simp; omega))
            have HY3 := Lib.hid (HY.out.kept hg3 (by simp; omega))
            have HB3 := Lib.hid (HB.out.grown hg3 HB.out.size (fun q hq => by cases hq; omega))
            have hstep : (if shB x y = true then (stR (fun i j => (firstB d i j == (p == 0))) y x).set y ((rowN (fun i => shB i y && (fun i j => (firstB d i j == (p == 0))) i y) x ||| 2 ^ x : Nat) : Int) else stR (fun i j => (firstB d i j == (p == 0))) y x) = stR (fun i j => (firstB d i j == (p == 0))) y (x + 1) := by
              cases h1 : shB x y
              · exact (stR_skip _ (by rw [h1]; rfl)).symm
              · rw [if_pos rfl, rowN_or]; exact stR_set _ hlt (by rw [h1]; first | rfl | exact HP.out)
            rw [hstep] at ho3
            have HO3 := Lib.hid ho3
            clear ho3 hg3 HO HX HY HB c1 hstep
            go_wp2_with fail
            go_roundw
            case rel => exact ⟨x + 1, by omega, by go_num, HO3, HX3, HY3, HB3⟩
            case measure => simp [intOf]; omega
        · have elx : decide ((x : Int) < 20) = false := decide_eq_false (by omega)
          obtain rfl : x = 20 := by omega
          rw [stR_next] at HO
          go_wp2_with fail
          go_roundw
          case rel => exact ⟨y + 1, by omega, by go_num, HO, HX, HY, HB⟩
          case measure => simp [intOf]; omega
    · have ely : decide ((y : Int) < 24) = false := decide_eq_false (by omega)
      obtain rfl : y = 24 := by omega
      rw [stR_all] at HO
      have c1 := HY.out.one.1
      obtain ⟨c0, f0⟩ := HX.out.one
      have hf0 := f0 0
      have X9 := HX.out.set 0 (.slice (some ⟨g, 0, none⟩) 24 24)
      obtain ⟨z0, _⟩ := X9.one
      have HG := grownBy_set wr w.heap.size 0 (.slice (some ⟨g, 0, none⟩) 24 24)
      have HO9 := Lib.hid (OwnI.kept HO.out HG (by right; simp [Value.ownBlock]; omega))
      have HB9 := Lib.hid (HB.out.grown HG HB.out.size (fun q hq => by cases hq; omega))
      clear X9 HG HO HX HB HY f0
      go_wp2_with fail
      exact bodyPost_ret (v := .tuple #[.agg #[.slice (some ⟨g, 0, none⟩) 24 24], .bool true]) (by simp [results, Tryd.results133, go_sem, z0]) rfl ⟨_, _, rfl, HO9.out, HB9.out⟩
theorem part_spec_no (d p : Int) (w : World) (h : ¬ ((0 ≤ d ∧ d ≤ 7) ∧ (0 ≤ p ∧ p ≤ 1))) : Calls Tryd.prog 133 #[.int .i64 d, .int .i64 p] w (AnsRB w [] 0 false) := by
  have b0 := BoxF.new w [.slice none 0 0] 26
  obtain ⟨c0, f0⟩ := b0.one
  have hf0 := f0 0
  clear b0
  by_cases hd : 0 ≤ d ∧ d ≤ 7
  · have CD := Lib.hid (fun W => in_any d 0 7 W true (decide_eq_true hd))
    have CQ := Lib.hid (fun W => in_any p 0 1 W false (decide_eq_false fun q => h ⟨hd, q⟩))
    clear h hd
    go_enter Tryd.func133, Tryd.ntmps133
    go_wp2_with fail
    refine (CD.out _).mono ?_
    rintro e w' ⟨rfl, rfl⟩
    go_wp2_with fail
    refine (CQ.out _).mono ?_
    rintro e w' ⟨rfl, rfl⟩
    go_wp2_with fail
    exact bodyPost_ret (v := .tuple #[.agg #[.slice none 0 0], .bool false]) (by simp [results, Tryd.results133, go_sem]) rfl ⟨_, _, rfl, ownI_nil _ _, (Below.refl _ w).alloc (Nat.le_refl _) _⟩
  · have CD := Lib.hid (fun W => in_any d 0 7 W false (decide_eq_false hd))
    clear h hd
    go_enter Tryd.func133, Tryd.ntmps133
    go_wp2_with fail
    refine (CD.out _).mono ?_
    rintro e w' ⟨rfl, rfl⟩
    go_wp2_with fail
    exact bodyPost_ret (v := .tuple #[.agg #[.slice none 0 0], .bool false]) (by simp [results, Tryd.results133, go_sem]) rfl ⟨_, _, rfl, ownI_nil _ _, (Below.refl _ w).alloc (Nat.le_refl _) _⟩

set_option maxRecDepth 100000 in
set_option maxHeartbeats 4000000 in
theorem ordc_spec (o : Int) (w : World) (ho0 : 0 ≤ o) (ho1 : o ≤ 7) : Calls Tryd.prog 134 #[.int .i64 o] w (AnsRB w (rowsOfR (regN (fun i j => ordB o i j))) 24 true) := by
  have b0 := BoxF.new w [.slice none 0 0] 26
  have X0 := Lib.hid b0
  have HB0 := Lib.hid ((Below.refl _ w).alloc (Nat.le_refl _) (.cells #[.slice none 0 0] 26 (0, 0)))
  clear b0
  have CD := Lib.hid (fun W => in_any o 0 7 W true (decide_eq_true ⟨ho0, ho1⟩))
  go_enter Tryd.func134, Tryd.ntmps134
  go_wp2_with fail
  refine (CD.out _).mono ?_
  rintro e w' ⟨rfl, rfl⟩
  go_wp2_with fail
  refine (l9Empty_any _).mono ?_
  rintro e w1 ⟨g, rfl, ho, hb1⟩
  have hgg := (World.ownsRow.lt ho g rfl)
  simp only [World.size_alloc] at hgg
  obtain ⟨q1, hq1⟩ : ∃ q, w1.heap.size = q := ⟨_, rfl⟩
  have HO := Lib.hid (OwnI.below (OwnI.low ho (B' := w.heap.size) (by simp)) ((Below.refl _ w1).alloc (Nat.le_refl _) (.cells #[.slice (some ⟨g, 0, none⟩) 24 24] 26 (0, 0))))
  have HX := Lib.hid ((X0.out.below hb1).alloc (.cells #[.slice (some ⟨g, 0, none⟩) 24 24] 26 (0, 0)))
  have HY := Lib.hid (BoxF.new w1 [.slice (some ⟨g, 0, none⟩) 24 24] 26)
  have HB1 := HB0.out.trans (hb1.mono HB0.out.size)
  have HB := Lib.hid (HB1.alloc HB1.size (.cells #[.slice (some ⟨g, 0, none⟩) 24 24] 26 (0, 0)))
  rw [← stR_start (fun i j => ordB o i j)] at HO
  rw [hq1] at HY hgg
  clear ho hb1 HB1 X0 HB0
  go_wp2_with fail
  go_loopw [5] (fun i wr => ∃ y : Nat, y ≤ 24 ∧ i = .int .i64 (y : Int) ∧ Hid (OwnI wr w.heap.size (some ⟨g, 0, none⟩) 24 24 (stR (fun i j => ordB o i j) y 0)) ∧ Hid (BoxF wr w.heap.size [.slice none 0 0] 26) ∧ Hid (BoxF wr q1 [.slice (some ⟨g, 0, none⟩) 24 24] 26) ∧ Hid (Below w.heap.size w wr)) (fun i _ => 24 - (intOf i).toNat)
  case atStart => exact ⟨0, by omega, rfl, HO, HX, HY, HB⟩
  case round =>
    obtain ⟨y, hy, rfl, HO, HX, HY, HB⟩ := hrel
    by_cases hlt : y < 24
    · have ely : decide ((y : Int) < 24) = true := decide_eq_true (by omega)
      go_wp2_with fail
      go_loopw [6] (fun i wr => ∃ x : Nat, x ≤ 20 ∧ i = .int .i64 (x : Int) ∧ Hid (OwnI wr w.heap.size (some ⟨g, 0, none⟩) 24 24 (stR (fun i j => ordB o i j) y x)) ∧ Hid (BoxF wr w.heap.size [.slice none 0 0] 26) ∧ Hid (BoxF wr q1 [.slice (some ⟨g, 0, none⟩) 24 24] 26) ∧ Hid (Below w.heap.size w wr)) (fun i _ => 20 - (intOf i).toNat)
      case atStart => exact ⟨0, by omega, rfl, HO, HX, HY, HB⟩
      case round =>
        obtain ⟨x, hx, rfl, HO, HX, HY, HB⟩ := hrel
        by_cases hlx : x < 20
        · have elx : decide ((x : Int) < 20) = true := decide_eq_true (by omega)
          have c1 := HY.out.one.1
          have CP := Lib.hid (fun W => l9Ord_any o x y W hlx hlt ho0 ho1)
          cases hpq : ordB o x y
          · rw [hpq] at CP
            have HP := Lib.hid (show (fun i j => ordB o i j) x y = false from hpq)
            go_wp2_with fail
            refine (CP.out _).mono ?_
            rintro e w2 ⟨rfl, rfl⟩
            go_wp2_with fail
            go_roundw
            case rel => exact ⟨x + 1, by omega, by go_num, by rw [stR_skip _ (by rw [HP.out]; simp)]; exact HO, HX, HY, HB⟩
            case measure => simp [intOf]; omega
          · rw [hpq] at CP
            have HP := Lib.hid (show (fun i j => ordB o i j) x y = true from hpq)
            go_wp2_with fail
            refine (CP.out _).mono ?_
            rintro e w2 ⟨rfl, rfl⟩
            go_wp2_with fail
            refine (l9Add_any _ w.heap.size g 24 x y _ _ HO.out hlx hlt (stR_at (fun i j => ordB o i j) x hlt) (rowN_ltk _ hx)).mono ?_
            rintro e w3 ⟨rfl, ho3, hg3⟩
            have HX3 := Lib.hid (HX.out.kept hg3 (by simp; omega))
            have HY3 := Lib.hid (HY.out.kept hg3 (by simp; omega))
            have HB3 := Lib.hid (HB.out.grown hg3 HB.out.size (fun q hq => by cases hq; omega))
            have hstep : (if shB x y = true then (stR (fun i j => ordB o i j) y x).set y ((rowN (fun i => shB i y && (fun i j => ordB o i j) i y) x ||| 2 ^ x : Nat) : Int) else stR (fun i j => ordB o i j) y x) = stR (fun i j => ordB o i j) y (x + 1) := by
              cases h1 : shB x y
              · exact (stR_skip _ (by rw [h1]; rfl)).symm
              · rw [if_pos rfl, rowN_or]; exact stR_set _ hlt (by rw [h1]; first | rfl | exact HP.out)
            rw [hstep] at ho3
            have HO3 := Lib.hid ho3
            clear ho3 hg3 HO HX HY HB c1 hstep
            go_wp2_with fail
            go_roundw
            case rel => exact ⟨x + 1, by omega, by go_num, HO3, HX3, HY3, HB3⟩
            case measure => simp [intOf]; omega
        · have elx : decide ((x : Int) < 20) = false := decide_eq_false (by omega)
          obtain rfl : x = 20 := by omega
          rw [stR_next] at HO
          go_wp2_with fail
          go_roundw
          case rel => exact ⟨y + 1, by omega, by go_num, HO, HX, HY, HB⟩
          case measure => simp [intOf]; omega
    · have ely : decide ((y : Int) < 24) = false := decide_eq_false (by omega)
      obtain rfl : y = 24 := by omega
      rw [stR_all] at HO
      have c1 := HY.out.one.1
      obtain ⟨c0, f0⟩ := HX.out.one
      have hf0 := f0 0
      have X9 := HX.out.set 0 (.slice (some ⟨g, 0, none⟩) 24 24)
      obtain ⟨z0, _⟩ := X9.one
      have HG := grownBy_set wr w.heap.size 0 (.slice (some ⟨g, 0, none⟩) 24 24)
      have HO9 := Lib.hid (OwnI.kept HO.out HG (by right; simp [Value.ownBlock]; omega))
      have HB9 := Lib.hid (HB.out.grown HG HB.out.size (fun q hq => by cases hq; omega))
      clear X9 HG HO HX HB HY f0
      go_wp2_with fail
      exact bodyPost_ret (v := .tuple #[.agg #[.slice (some ⟨g, 0, none⟩) 24 24], .bool true]) (by simp [results, Tryd.results134, go_sem, z0]) rfl ⟨_, _, rfl, HO9.out, HB9.out⟩
theorem ordc_spec_no (o : Int) (w : World) (h : ¬ (0 ≤ o ∧ o ≤ 7)) : Calls Tryd.prog 134 #[.int .i64 o] w (AnsRB w [] 0 false) := by
  have b0 := BoxF.new w [.slice none 0 0] 26
  obtain ⟨c0, f0⟩ := b0.one
  have hf0 := f0 0
  clear b0
  have CD := Lib.hid (fun W => in_any o 0 7 W false (decide_eq_false h))
  clear h
  go_enter Tryd.func134, Tryd.ntmps134
  go_wp2_with fail
  refine (CD.out _).mono ?_
  rintro e w' ⟨rfl, rfl⟩
  go_wp2_with fail
  exact bodyPost_ret (v := .tuple #[.agg #[.slice none 0 0], .bool false]) (by simp [results, Tryd.results134, go_sem]) rfl ⟨_, _, rfl, ownI_nil _ _, (Below.refl _ w).alloc (Nat.le_refl _) _⟩
end Go.Proofs.YthapidnjioindaaDoor
namespace Go.Proofs.YthapidnjioindaaDoor
open Go.RowKit

/-- The numbers fit into 64 bits. -/
def WfI (X : List Int) : Prop := ∀ z ∈ X, -9223372036854775808 ≤ z ∧ z < 9223372036854775808
/-- The rows are those of a region. -/
def goodR (X : List Int) : Bool := decide (X.length = 24) && (List.range 24).all (fun y => goodRow (shN y) (X.getD y 0))
theorem goodR_at {X : List Int} (h : goodR X = true) {y : Nat} (hy : y < 24) : goodRow (shN y) (X.getD y 0) = true := by
  unfold goodR at h
  simp only [Bool.and_eq_true, List.all_eq_true, List.mem_range] at h
  exact h.2 y hy
theorem goodR_len {X : List Int} (h : goodR X = true) : X.length = 24 := by
  unfold goodR at h
  simp only [Bool.and_eq_true, decide_eq_true_eq] at h
  exact h.1
theorem goodR_no {X : List Int} {y : Nat} (hy : y < 24) (h : goodRow (shN y) (X.getD y 0) = false) : goodR X = false := by
  cases hg : goodR X
  · rfl
  · rw [goodR_at hg hy] at h; cases h
theorem goodR_yes {X : List Int} (hl : X.length = 24) (h : ∀ y, y < 24 → goodRow (shN y) (X.getD y 0) = true) : goodR X = true := by
  unfold goodR
  simp only [Bool.and_eq_true, decide_eq_true_eq, List.all_eq_true, List.mem_range]
  exact ⟨hl, h⟩
theorem rowsOfR_at (f : Nat → Nat) {y : Nat} (hy : y < 24) : (rowsOfR f)[y]? = some ((f y : Nat) : Int) := by
  unfold rowsOfR
  rw [List.getElem?_map, List.getElem?_range hy]; rfl
theorem rowsOfR_getD (f : Nat → Nat) {y : Nat} (hy : y < 24) : (rowsOfR f).getD y 0 = ((f y : Nat) : Int) := by
  simp [List.getD, rowsOfR_at f hy]
theorem field_rows (p : Option Addr) (n c : Nat) (w : World) : (Instr.field 26 (.agg #[.slice p n c]) 0).run Tryd.prog w = .ok (.slice p n c) w := by
  first | kernel_rfl | rfl | simp [go_sem]
set_option maxRecDepth 100000 in
set_option maxHeartbeats 2000000 in
theorem valid_impl (X : List Int) (n : Nat) (a : Option Addr) (c : Nat) (w : World) (h : RdI w a n X) (hwf : WfI X) (hn : n ≤ 1048577) :
    Calls Tryd.prog 50 #[.agg #[.slice a n c]] w fun e w' => e = .returned (.bool (goodR X)) ∧ Below w.heap.size w w' := by
  have XA := BoxF.new w [.slice a n c] 26
  have hb := (Below.refl _ w).alloc (Nat.le_refl _) (.cells #[.slice a n c] 26 (0, 0))
  have c1 := XA.one.1
  by_cases h24 : n = 24
  · subst h24
    obtain ⟨b, o, rfl, _, hc⟩ := (h.below hb).2 (by omega)
    have HX := Lib.hid XA
    have HC := Lib.hid (h.below hb)
    have HL := Lib.hid h.1
    have HW := Lib.hid hwf
    have HB := Lib.hid hb
    clear h hwf hb XA hc
    go_enter Tryd.func50, Tryd.ntmps50
    go_wp2_with fail
    refine (shield_impl _).mono ?_
    rintro e w1 ⟨g, rfl, ho, hb1⟩
    have HX1 := Lib.hid (HX.out.below hb1)
    have HC1 := Lib.hid (HC.out.below hb1)
    have HB1 := Lib.hid (HB.out.trans (hb1.mono HB.out.size))
    have HS := Lib.hid ho.rd
    clear ho hb1 HX HC HB c1
    have hfld := fun W => field_rows (some ⟨g, 0, none⟩) 24 24 W
    go_wp2_with fail
    clear hfld
    go_loopw [12] (fun i wr => ∃ y : Nat, y ≤ 24 ∧ i = .int .i64 (y : Int) ∧ wr = w1 ∧ ∀ j, j < y → goodRow (shN j) (X.getD j 0) = true) (fun i _ => 24 - (intOf i).toNat)
    case atStart => exact ⟨0, by omega, rfl, rfl, fun j hj => by omega⟩
    case round =>
      obtain ⟨y, hy, rfl, rfl, hall⟩ := hrel
      by_cases hlt : y < 24
      · have ely : decide ((y : Int) < 24) = true := decide_eq_true (by omega)
        obtain ⟨b2, o2, e2, _, hc2⟩ := HS.out.2 (by omega)
        cases e2
        obtain ⟨b3, o3, e3, _, hc3⟩ := HC1.out.2 (by omega)
        cases e3
        have x1 := hc2 y hlt
        rw [rowsOfR_getD shN hlt, Nat.zero_add] at x1
        have x2 := hc3 y hlt
        obtain ⟨A, hA⟩ : ∃ A, X.getD y 0 = A := ⟨_, rfl⟩
        rw [hA] at x2
        have hwA := HW.out A (by rw [← hA]; simp [List.getD, List.getElem?_eq_getElem (show y < X.length by rw [HL.out]; exact hlt)])
        have hz := andNot_zero A (shN y) (shN_lt y) hwA.1 hwA.2
        have c1 := HX1.out.one.1
        have HALL := Lib.hid hall
        clear hc2 hc3 hall
        cases hg : goodRow (shN y) A
        · have hz2 : (bits .andNot .i64 A ((shN y : Nat) : Int) != 0) = true := by rw [bne, hz, hg]; rfl
          have hr := Lib.hid (goodR_no (X := X) hlt (by rw [hA]; exact hg))
          clear hz hg
          go_wp2_with fail
          go_ret
          exact ⟨by rw [hr.out]; rfl, HB1.out⟩
        · have hz2 : (bits .andNot .i64 A ((shN y : Nat) : Int) != 0) = false := by rw [bne, hz, hg]; rfl
          have HG := Lib.hid (show goodRow (shN y) (X.getD y 0) = true by rw [hA]; exact hg)
          clear hz hg
          go_wp2_with fail
          go_roundw
          case rel =>
            refine ⟨y + 1, by omega, by go_num, by first | rfl | trivial, fun j hj => ?_⟩
            by_cases hjy : j = y
            · subst hjy; exact HG.out
            · exact HALL.out j (by omega)
          case measure => simp [intOf]; omega
      · have ely : decide ((y : Int) < 24) = false := decide_eq_false (by omega)
        obtain rfl : y = 24 := by omega
        have hr := Lib.hid (goodR_yes HL.out hall)
        clear hall
        go_wp2_with fail
        go_ret
        exact ⟨by rw [hr.out]; rfl, HB1.out⟩
  · have hr : goodR X = false := by
      unfold goodR
      rw [decide_eq_false (by rw [h.1]; exact h24)]; rfl
    have en : ((n : Int) != 24) = true := by simp; omega
    rw [hr]
    have HB := Lib.hid hb
    clear h hwf hb XA hr h24
    go_enter Tryd.func50, Tryd.ntmps50
    go_wp2_with fail
    go_ret
    exact ⟨rfl, HB.out⟩
/-- The region has the cell. -/
def hasB (X : List Int) (x y : Nat) : Bool := (X.getD y 0).toNat.testBit x
def hasZ (X : List Int) (x y : Int) : Bool := decide (0 ≤ x ∧ x ≤ 19) && (decide (0 ≤ y ∧ y ≤ 23) && hasB X x.toNat y.toNat)
theorem bit_and1 (N x : Nat) (hN : N < 1048576) : (bits .and .i64 ((N : Int) / 2 ^ x) 1 == 1) = N.testBit x := by
  have e1 : (N : Int) / 2 ^ x = ((N / 2 ^ x : Nat) : Int) := by simp
  have hd : N / 2 ^ x ≤ N := Nat.div_le_self _ _
  have e2 := i64_and_nat (N / 2 ^ x) 1 (by omega) (by omega)
  rw [e1]
  simp only [Int.natCast_one] at e2
  rw [e2, Nat.and_one_is_mod, Nat.testBit_eq_decide_div_mod_eq]
  have hm := Nat.mod_lt (N / 2 ^ x) (show 0 < 2 by decide)
  rcases (show N / 2 ^ x % 2 = 0 ∨ N / 2 ^ x % 2 = 1 by omega) with h | h <;> rw [h] <;> rfl
set_option maxRecDepth 100000 in
set_option maxHeartbeats 2000000 in
theorem l9Has_in (X : List Int) (a : Option Addr) (c x y N : Nat) (w : World) (h : RdI w a 24 X) (hx : x < 20) (hy : y < 24) (hN : X.getD y 0 = (N : Int)) (hN2 : N < 1048576) :
    Calls Tryd.prog 87 #[.agg #[.slice a 24 c], .int .i64 (x : Int), .int .i64 (y : Int)] w fun e w' => e = .returned (.bool (hasB X x y)) ∧ Below w.heap.size w w' := by
  have XA := BoxF.new w [.slice a 24 c] 26
  have hb := (Below.refl _ w).alloc (Nat.le_refl _) (.cells #[.slice a 24 c] 26 (0, 0))
  have c1 := XA.one.1
  obtain ⟨b, o, rfl, _, hc⟩ := (h.below hb).2 (by omega)
  have x2 := hc y hy
  rw [hN] at x2
  have CX := Lib.hid (fun W => in_any (x : Int) 0 19 W true (decide_eq_true (by omega)))
  have CY := Lib.hid (fun W => in_any (y : Int) 0 23 W true (decide_eq_true (by omega)))
  have hbit := bit_and1 N x hN2
  rw [show N.testBit x = hasB X x y by unfold hasB; rw [hN]; simp] at hbit
  have HB := Lib.hid hb
  clear h hb XA hc
  go_enter Tryd.func87, Tryd.ntmps87
  go_wp2_with fail
  refine (CX.out _).mono ?_
  rintro e w' ⟨rfl, rfl⟩
  go_wp2_with fail
  refine (CY.out _).mono ?_
  rintro e w' ⟨rfl, rfl⟩
  go_wp2_with fail
  go_ret
  exact ⟨by first | rfl | rw [hbit], HB.out⟩
theorem l9Has_out (a : Option Addr) (n c : Nat) (x y : Int) (w : World) (hxy : ¬ ((0 ≤ x ∧ x ≤ 19) ∧ (0 ≤ y ∧ y ≤ 23))) :
    Calls Tryd.prog 87 #[.agg #[.slice a n c], .int .i64 x, .int .i64 y] w fun e w' => e = .returned (.bool false) ∧ Below w.heap.size w w' := by
  have HB := Lib.hid ((Below.refl _ w).alloc (Nat.le_refl _) (.cells #[.slice a n c] 26 (0, 0)))
  by_cases hx : 0 ≤ x ∧ x ≤ 19
  · have CX := Lib.hid (fun W => in_any x 0 19 W true (decide_eq_true hx))
    have CY := Lib.hid (fun W => in_any y 0 23 W false (decide_eq_false (fun q => hxy ⟨hx, q⟩)))
    clear hxy hx
    go_enter Tryd.func87, Tryd.ntmps87
    go_wp2_with fail
    refine (CX.out _).mono ?_
    rintro e w' ⟨rfl, rfl⟩
    go_wp2_with fail
    refine (CY.out _).mono ?_
    rintro e w' ⟨rfl, rfl⟩
    go_wp2_with fail
    go_ret
    exact ⟨rfl, HB.out⟩
  · have CX := Lib.hid (fun W => in_any x 0 19 W false (decide_eq_false hx))
    clear hxy hx
    go_enter Tryd.func87, Tryd.ntmps87
    go_wp2_with fail
    refine (CX.out _).mono ?_
    rintro e w' ⟨rfl, rfl⟩
    go_wp2_with fail
    go_ret
    exact ⟨rfl, HB.out⟩
/-- The model's test of a row is the program's. -/
theorem goodRow_bits {y : Nat} {N : Nat} (hN : N < 1048576) : goodRow (shN y) (N : Int) = true ↔ ∀ x, x < 20 → N.testBit x = true → shB x y = true := by
  unfold goodRow
  simp only [Bool.and_eq_true, decide_eq_true_eq, Int.toNat_natCast]
  rw [sub_mask]
  constructor
  · rintro ⟨_, h⟩ x hx hb
    have := h x hb
    unfold shN at this
    rw [rowN_bit] at this
    simp at this; exact this.2
  · intro h
    refine ⟨by omega, fun x hb => ?_⟩
    have hx : x < 20 := by
      rcases Nat.lt_or_ge x 20 with h1 | h1
      · exact h1
      · rw [Nat.testBit_lt_two_pow (Nat.lt_of_lt_of_le (show N < 2 ^ 20 by omega) (Nat.pow_le_pow_right (by omega) h1))] at hb; cases hb
    unfold shN
    rw [rowN_bit]
    simp [hx, h x hx hb]
theorem goodRow_range {y : Nat} {A : Int} (h : goodRow (shN y) A = true) : 0 ≤ A ∧ A ≤ 1048575 := by
  obtain ⟨n, rfl, hn, _⟩ := goodRow_out (shN_lt y) h
  omega
set_option maxRecDepth 100000 in
set_option maxHeartbeats 4000000 in
theorem good_spec (X : List Int) (n : Nat) (a : Option Addr) (c : Nat) (w : World) (h : RdI w a n X) (hn : n ≤ 1048577) :
    Calls Tryd.prog 56 #[.agg #[.slice a n c]] w fun e w' => e = .returned (.bool (goodR X)) ∧ Below w.heap.size w w' := by
  have XA := BoxF.new w [.slice a n c] 26
  have hb := (Below.refl _ w).alloc (Nat.le_refl _) (.cells #[.slice a n c] 26 (0, 0))
  have c1 := XA.one.1
  by_cases h24 : n = 24
  · subst h24
    have HX0 := Lib.hid XA
    have HR := Lib.hid h
    have HL := Lib.hid h.1
    have HB0 := Lib.hid hb
    clear h hb XA
    go_enter Tryd.func56, Tryd.ntmps56
    go_wp2_with fail
    go_loopw [3] (fun i wr => ∃ y : Nat, y ≤ 24 ∧ i = .int .i64 (y : Int) ∧ Hid (BoxF wr w.heap.size [.slice a 24 c] 26) ∧ Hid (Below w.heap.size w wr) ∧ Hid (∀ j, j < y → goodRow (shN j) (X.getD j 0) = true)) (fun i _ => 24 - (intOf i).toNat)
    case atStart => exact ⟨0, by omega, rfl, HX0, HB0, Lib.hid (fun j hj => by omega)⟩
    case round =>
      obtain ⟨y, hy, rfl, HX, HB, HALL⟩ := hrel
      clear HX0 HB0 c1
      by_cases hlt : y < 24
      · have ely : decide ((y : Int) < 24) = true := decide_eq_true (by omega)
        have c1 := HX.out.one.1
        obtain ⟨A, hA⟩ : ∃ A, X.getD y 0 = A := ⟨_, rfl⟩
        have HRw := HR.out.below HB.out
        obtain ⟨b, o, rfl, _, hc⟩ := HRw.2 (by omega)
        have x2 := hc y hlt
        rw [hA] at x2
        by_cases hr : 0 ≤ A ∧ A ≤ 1048575
        · have CR := Lib.hid (fun W => in_any A 0 1048575 W true (decide_eq_true hr))
          obtain ⟨N, rfl⟩ : ∃ N : Nat, A = N := ⟨A.toNat, by omega⟩
          have hN2 : N < 1048576 := by omega
          have HA := Lib.hid hA
          clear hc HRw hr hA
          go_wp2_with fail
          refine (CR.out _).mono ?_
          rintro e w2 ⟨rfl, rfl⟩
          clear CR
          go_wp2_with fail
          go_loopw [4] (fun i wr => ∃ x : Nat, x ≤ 20 ∧ i = .int .i64 (x : Int) ∧ Hid (BoxF wr w.heap.size [.slice (some ⟨b, o, none⟩) 24 c] 26) ∧ Hid (Below w.heap.size w wr) ∧ Hid (∀ j, j < x → N.testBit j = true → shB j y = true)) (fun i _ => 20 - (intOf i).toNat)
          case atStart => exact ⟨0, by omega, rfl, HX, HB, Lib.hid (fun j hj => by omega)⟩
          case round =>
            clear c1 x2 HX HB
            obtain ⟨x, hx, rfl, HX, HB, HIN⟩ := hrel
            by_cases hlx : x < 20
            · have elx : decide ((x : Int) < 20) = true := decide_eq_true (by omega)
              have c1 := HX.out.one.1
              have CH := Lib.hid (l9Has_in X (some ⟨b, o, none⟩) c x y N _ (HR.out.below HB.out) hlx hlt HA.out hN2)
              rw [show hasB X x y = N.testBit x by unfold hasB; rw [HA.out]; simp] at CH
              go_wp2_with fail
              refine CH.out.mono ?_
              rintro e w3 ⟨rfl, hb3⟩
              have HX3 := Lib.hid (HX.out.below hb3)
              have HB3 := Lib.hid (HB.out.trans (hb3.mono HB.out.size))
              clear hb3 HX HB c1 CH
              cases hbt : N.testBit x
              · have HBT := Lib.hid hbt
                clear hbt
                go_wp2_with fail
                go_roundw
                case rel =>
                  refine ⟨x + 1, by omega, by go_num, HX3, HB3, Lib.hid (fun j hj hjb => ?_)⟩
                  by_cases hjx : j = x
                  · subst hjx; rw [HBT.out] at hjb; cases hjb
                  · exact HIN.out j (by omega) hjb
                case measure => simp [intOf]; omega
              · have CI := Lib.hid (fun W => l9In_any (x : Int) (y : Int) W)
                rw [shZ_nat hlx hlt] at CI
                have HBT := Lib.hid hbt
                clear hbt
                cases hs : shB x y
                · rw [hs] at CI
                  have HF := Lib.hid (show goodR X = false from goodR_no hlt (by
                    rw [HA.out]
                    cases hg : goodRow (shN y) ((N : Nat) : Int)
                    · rfl
                    · have := (goodRow_bits hN2).1 hg x hlx HBT.out
                      rw [hs] at this; cases this))
                  clear hs
                  go_wp2_with fail
                  refine (CI.out _).mono ?_
                  rintro e w4 ⟨rfl, rfl⟩
                  go_wp2_with fail
                  go_ret
                  exact ⟨by rw [HF.out]; rfl, HB3.out⟩
                · rw [hs] at CI
                  have HS := Lib.hid hs
                  clear hs
                  go_wp2_with fail
                  refine (CI.out _).mono ?_
                  rintro e w4 ⟨rfl, rfl⟩
                  go_wp2_with fail
                  go_roundw
                  case rel =>
                    refine ⟨x + 1, by omega, by go_num, HX3, HB3, Lib.hid (fun j hj hjb => ?_)⟩
                    by_cases hjx : j = x
                    · subst hjx; exact HS.out
                    · exact HIN.out j (by omega) hjb
                  case measure => simp [intOf]; omega
            · have elx : decide ((x : Int) < 20) = false := decide_eq_false (by omega)
              obtain rfl : x = 20 := by omega
              go_wp2_with fail
              go_roundw
              case rel =>
                refine ⟨y + 1, by omega, by go_num, HX, HB, Lib.hid (fun j hj => ?_)⟩
                by_cases hjy : j = y
                · subst hjy; rw [HA.out]; exact (goodRow_bits hN2).2 HIN.out
                · exact HALL.out j (by omega)
              case measure => simp [intOf]; omega
        · have CR := Lib.hid (fun W => in_any A 0 1048575 W false (decide_eq_false hr))
          have HF := Lib.hid (show goodR X = false from goodR_no hlt (by
            rw [hA]
            cases hg : goodRow (shN y) A
            · rfl
            · exact absurd (goodRow_range hg) hr))
          clear hc HRw hr hA
          go_wp2_with fail
          refine (CR.out _).mono ?_
          rintro e w2 ⟨rfl, rfl⟩
          go_wp2_with fail
          go_ret
          exact ⟨by rw [HF.out]; rfl, HB.out⟩
      · have ely : decide ((y : Int) < 24) = false := decide_eq_false (by omega)
        obtain rfl : y = 24 := by omega
        have hr := Lib.hid (goodR_yes HL.out HALL.out)
        go_wp2_with fail
        go_ret
        exact ⟨by rw [hr.out]; rfl, HB.out⟩
  · have hr : goodR X = false := by
      unfold goodR
      rw [decide_eq_false (by rw [h.1]; exact h24)]; rfl
    have en : ((n : Int) != 24) = true := by simp; omega
    rw [hr]
    have HB := Lib.hid hb
    clear h hb XA hr h24
    go_enter Tryd.func56, Tryd.ntmps56
    go_wp2_with fail
    go_ret
    exact ⟨rfl, HB.out⟩
end Go.Proofs.YthapidnjioindaaDoor
