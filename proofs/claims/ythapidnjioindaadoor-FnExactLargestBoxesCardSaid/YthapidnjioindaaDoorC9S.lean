/- Contracts: the model's regions of the shield, of parts and of ordinaries. -/
import Derived.Test.YthapidnjioindaaDoorC9R
namespace Go.Proofs.YthapidnjioindaaDoor
open Go.RowKit

set_option maxRecDepth 100000 in
set_option maxHeartbeats 4000000 in
theorem shield_spec (w : World) : Calls Tryd.prog 136 #[] w (AnsR w shN) := by
  have b0 := BoxF.new w [.slice none 0 0] 26
  have X0 := Lib.hid b0
  have HB0 := Lib.hid ((Below.refl _ w).alloc (Nat.le_refl _) (.cells #[.slice none 0 0] 26 (0, 0)))
  clear b0
  have er : regN (fun _ _ => true) = shN := by funext y; unfold regN shN; simp
  rw [← er]
  clear er
  go_enter Tryd.func136, Tryd.ntmps136
  go_wp2_with fail
  refine (l9Empty_any _).mono ?_
  rintro e w1 ⟨g, rfl, ho, hb1⟩
  have hgg := (World.ownsRow.lt ho g rfl)
  simp only [World.size_alloc] at hgg
  obtain ⟨q1, hq1⟩ : ∃ q, w1.heap.size = q := ⟨_, rfl⟩
  have HO := Lib.hid (OwnI.below (OwnI.low ho (B' := w.heap.size) (by simp)) ((Below.refl _ w1).alloc (Nat.le_refl _) (.cells #[.slice (some ⟨g, 0, none⟩) 24 24] 26 (0, 0))))
  have HX := Lib.hid ((X0.out.below hb1).alloc (.cells #[.slice (some ⟨g, 0, none⟩) 24 24] 26 (0, 0)))
  have HY := Lib.hid (BoxF.new w1 [.slice (some ⟨g, 0, none⟩) 24 24] 26)
  have HB1 := HB0.out.trans (hb1.mono HB0.out.size)
  have HB := Lib.hid (HB1.alloc HB1.size (.cells #[.slice (some ⟨g, 0, none⟩) 24 24] 26 (0, 0)))
  rw [← stR_start (fun _ _ => true)] at HO
  rw [hq1] at HY hgg
  clear ho hb1 HB1 X0 HB0
  go_wp2_with fail
  go_loopw [2] (fun i wr => ∃ y : Nat, y ≤ 24 ∧ i = .int .i64 (y : Int) ∧ Hid (OwnI wr w.heap.size (some ⟨g, 0, none⟩) 24 24 (stR (fun _ _ => true) y 0)) ∧ Hid (BoxF wr w.heap.size [.slice none 0 0] 26) ∧ Hid (BoxF wr q1 [.slice (some ⟨g, 0, none⟩) 24 24] 26) ∧ Hid (Below w.heap.size w wr)) (fun i _ => 24 - (intOf i).toNat)
  case atStart => exact ⟨0, by omega, rfl, HO, HX, HY, HB⟩
  case round =>
    obtain ⟨y, hy, rfl, HO, HX, HY, HB⟩ := hrel
    by_cases hlt : y < 24
    · have ely : decide ((y : Int) < 24) = true := decide_eq_true (by omega)
      go_wp2_with fail
      go_loopw [3] (fun i wr => ∃ x : Nat, x ≤ 20 ∧ i = .int .i64 (x : Int) ∧ Hid (OwnI wr w.heap.size (some ⟨g, 0, none⟩) 24 24 (stR (fun _ _ => true) y x)) ∧ Hid (BoxF wr w.heap.size [.slice none 0 0] 26) ∧ Hid (BoxF wr q1 [.slice (some ⟨g, 0, none⟩) 24 24] 26) ∧ Hid (Below w.heap.size w wr)) (fun i _ => 20 - (intOf i).toNat)
      case atStart => exact ⟨0, by omega, rfl, HO, HX, HY, HB⟩
      case round =>
        obtain ⟨x, hx, rfl, HO, HX, HY, HB⟩ := hrel
        by_cases hlx : x < 20
        · have elx : decide ((x : Int) < 20) = true := decide_eq_true (by omega)
          have c1 := HY.out.one.1
          have HP := Lib.hid (show (fun (_ _ : Nat) => true) x y = true from rfl)
          go_wp2_with fail
          refine (l9Add_any _ w.heap.size g 24 x y _ _ HO.out hlx hlt (stR_at (fun _ _ => true) x hlt) (rowN_ltk _ hx)).mono ?_
          rintro e w3 ⟨rfl, ho3, hg3⟩
          have HX3 := Lib.hid (HX.out.kept hg3 (by simp; omega))
          have HY3 := Lib.hid (HY.out.kept hg3 (by simp; omega))
          have HB3 := Lib.hid (HB.out.grown hg3 HB.out.size (fun q hq => by cases hq; omega))
          have hstep : (if shB x y = true then (stR (fun _ _ => true) y x).set y ((rowN (fun i => shB i y && (fun _ _ => true) i y) x ||| 2 ^ x : Nat) : Int) else stR (fun _ _ => true) y x) = stR (fun _ _ => true) y (x + 1) := by
            cases h1 : shB x y
            · exact (stR_skip _ (by rw [h1]; rfl)).symm
            · rw [if_pos rfl, rowN_or]; exact stR_set _ hlt (by rw [h1]; first | rfl | exact HP.out)
          rw [hstep] at ho3
          have HO3 := Lib.hid ho3
          clear ho3 hg3 HO HX HY HB c1 hstep
          go_wp2_with fail
          go_roundw
          case rel => exact ⟨x + 1, by omega, by go_num, HO3, HX3, HY3, HB3⟩
          case measure => simp [intOf]; omega
        · have elx : decide ((x : Int) < 20) = false := decide_eq_false (by omega)
          obtain rfl : x = 20 := by omega
          rw [stR_next] at HO
          go_wp2_with fail
          go_roundw
          case rel => exact ⟨y + 1, by omega, by go_num, HO, HX, HY, HB⟩
          case measure => simp [intOf]; omega
    · have ely : decide ((y : Int) < 24) = false := decide_eq_false (by omega)
      obtain rfl : y = 24 := by omega
      rw [stR_all] at HO
      have c1 := HY.out.one.1
      obtain ⟨c0, f0⟩ := HX.out.one
      have hf0 := f0 0
      have X9 := HX.out.set 0 (.slice (some ⟨g, 0, none⟩) 24 24)
      obtain ⟨z0, _⟩ := X9.one
      have HG := grownBy_set wr w.heap.size 0 (.slice (some ⟨g, 0, none⟩) 24 24)
      have HO9 := Lib.hid (OwnI.kept HO.out HG (by right; simp [Value.ownBlock]; omega))
      have HB9 := Lib.hid (HB.out.grown HG HB.out.size (fun q hq => by cases hq; omega))
      clear X9 HG HO HX HB HY f0
      go_wp2_with fail
      exact bodyPost_ret (v := .agg #[.slice (some ⟨g, 0, none⟩) 24 24]) (by simp [results, Tryd.results136, go_sem, z0]) rfl ⟨_, rfl, HO9.out, HB9.out⟩

set_option maxRecDepth 100000 in
set_option maxHeartbeats 4000000 in
theorem part_spec (d p : Int) (w : World) (hd0 : 0 ≤ d) (hd1 : d ≤ 7) (hp0 : 0 ≤ p) (hp1 : p ≤ 1) : Calls Tryd.prog 133 #[.int .i64 d, .int .i64 p] w (AnsRB w (rowsOfR (regN (fun i j => (firstB d i j == (p == 0))))) 24 true) := by
  have b0 := BoxF.new w [.slice none 0 0] 26
  have X0 := Lib.hid b0
  have HB0 := Lib.hid ((Below.refl _ w).alloc (Nat.le_refl _) (.cells #[.slice none 0 0] 26 (0, 0)))
  clear b0
  have CD := Lib.hid (fun W => in_any d 0 7 W true (decide_eq_true ⟨hd0, hd1⟩))
  have CQ := Lib.hid (fun W => in_any p 0 1 W true (decide_eq_true ⟨hp0, hp1⟩))
  go_enter Tryd.func133, Tryd.ntmps133
  go_wp2_with fail
  refine (CD.out _).mono ?_
  rintro e w' ⟨rfl, rfl⟩
  go_wp2_with fail
  refine (CQ.out _).mono ?_
  rintro e w' ⟨rfl, rfl⟩
  go_wp2_with fail
  refine (l9Empty_any _).mono ?_
  rintro e w1 ⟨g, rfl, ho, hb1⟩
  have hgg := (World.ownsRow.lt ho g rfl)
  simp only [World.size_alloc] at hgg
  obtain ⟨q1, hq1⟩ : ∃ q, w1.heap.size = q := ⟨_, rfl⟩
  have HO := Lib.hid (OwnI.below (OwnI.low ho (B' := w.heap.size) (by simp)) ((Below.refl _ w1).alloc (Nat.le_refl _) (.cells #[.slice (some ⟨g, 0, none⟩) 24 24] 26 (0, 0))))
  have HX := Lib.hid ((X0.out.below hb1).alloc (.cells #[.slice (some ⟨g, 0, none⟩) 24 24] 26 (0, 0)))
  have HY := Lib.hid (BoxF.new w1 [.slice (some ⟨g, 0, none⟩) 24 24] 26)
  have HB1 := HB0.out.trans (hb1.mono HB0.out.size)
  have HB := Lib.hid (HB1.alloc HB1.size (.cells #[.slice (some ⟨g, 0, none⟩) 24 24] 26 (0, 0)))
  rw [← stR_start (fun i j => (firstB d i j == (p == 0)))] at HO
  rw [hq1] at HY hgg
  clear ho hb1 HB1 X0 HB0
  go_wp2_with fail
  go_loopw [7] (fun i wr => ∃ y : Nat, y ≤ 24 ∧ i = .int .i64 (y : Int) ∧ Hid (OwnI wr w.heap.size (some ⟨g, 0, none⟩) 24 24 (stR (fun i j => (firstB d i j == (p == 0))) y 0)) ∧ Hid (BoxF wr w.heap.size [.slice none 0 0] 26) ∧ Hid (BoxF wr q1 [.slice (some ⟨g, 0, none⟩) 24 24] 26) ∧ Hid (Below w.heap.size w wr)) (fun i _ => 24 - (intOf i).toNat)
  case atStart => exact ⟨0, by omega, rfl, HO, HX, HY, HB⟩
  case round =>
    obtain ⟨y, hy, rfl, HO, HX, HY, HB⟩ := hrel
    by_cases hlt : y < 24
    · have ely : decide ((y : Int) < 24) = true := decide_eq_true (by omega)
      go_wp2_with fail
      go_loopw [8] (fun i wr => ∃ x : Nat, x ≤ 20 ∧ i = .int .i64 (x : Int) ∧ Hid (OwnI wr w.heap.size (some ⟨g, 0, none⟩) 24 24 (stR (fun i j => (firstB d i j == (p == 0))) y x)) ∧ Hid (BoxF wr w.heap.size [.slice none 0 0] 26) ∧ Hid (BoxF wr q1 [.slice (some ⟨g, 0, none⟩) 24 24] 26) ∧ Hid (Below w.heap.size w wr)) (fun i _ => 20 - (intOf i).toNat)
      case atStart => exact ⟨0, by omega, rfl, HO, HX, HY, HB⟩
      case round =>
        obtain ⟨x, hx, rfl, HO, HX, HY, HB⟩ := hrel
        by_cases hlx : x < 20
        · have elx : decide ((x : Int) < 20) = true := decide_eq_true (by omega)
          have CP := Lib.hid (fun W => l9Part_any d x y W hlx hlt hd0 hd1)
          have hpe : decide ((if firstB d x y = true then (0 : Int) else 1) = p) = (firstB d x y == (p == 0)) := by
            have hp : p = 0 ∨ p = 1 := by omega
            rcases hp with rfl | rfl <;> cases firstB d x y <;> simp
          obtain ⟨v, hv⟩ : ∃ v, (if firstB d x y = true then (0 : Int) else 1) = v := ⟨_, rfl⟩
          rw [hv] at CP hpe
          go_wp2_with fail
          refine (CP.out _).mono ?_
          rintro e w2 ⟨rfl, hb2⟩
          have HO2 := Lib.hid (HO.out.below hb2)
          have HX2 := Lib.hid (HX.out.below hb2)
          have HY2 := Lib.hid (HY.out.below hb2)
          have HB2 := Lib.hid (HB.out.trans (hb2.mono HB.out.size))
          clear hb2 HO HX HY HB CP
          have HO := HO2
          have HX := HX2
          have HY := HY2
          have HB := HB2
          clear HO2 HX2 HY2 HB2
          have c1 := HY.out.one.1
          have hvp : (v == p) = (firstB d x y == (p == 0)) := by rw [← hpe]; rfl
          cases hpq : (firstB d x y == (p == 0))
          · have HP := Lib.hid (show (fun i j => (firstB d i j == (p == 0))) x y = false from hpq)
            rw [hpq] at hvp
            clear hpq hpe
            go_wp2_with fail
            go_roundw
            case rel => exact ⟨x + 1, by omega, by go_num, by rw [stR_skip _ (by rw [HP.out]; simp)]; exact HO, HX, HY, HB⟩
            case measure => simp [intOf]; omega
          · have HP := Lib.hid (show (fun i j => (firstB d i j == (p == 0))) x y = true from hpq)
            rw [hpq] at hvp
            clear hpq hpe
            go_wp2_with fail
            refine (l9Add_any _ w.heap.size g 24 x y _ _ HO.out hlx hlt (stR_at (fun i j => (firstB d i j == (p == 0))) x hlt) (rowN_ltk _ hx)).mono ?_
            rintro e w3 ⟨rfl, ho3, hg3⟩
            have HX3 := Lib.hid (HX.out.kept hg3 (by simp; omega))
            have HY3 := Lib.hid (HY.out.kept hg3 (by simp; omega))
            have HB3 := Lib.hid (HB.out.grown hg3 HB.out.size (fun q hq => by cases hq; omega))
            have hstep : (if shB x y = true then (stR (fun i j => (firstB d i j == (p == 0))) y x).set y ((rowN (fun i => shB i y && (fun i j => (firstB d i j == (p == 0))) i y) x ||| 2 ^ x : Nat) : Int) else stR (fun i j => (firstB d i j == (p == 0))) y x) = stR (fun i j => (firstB d i j == (p == 0))) y (x + 1) := by
              cases h1 : shB x y
              · exact (stR_skip _ (by rw [h1]; rfl)).symm
              · rw [if_pos rfl, rowN_or]; exact stR_set _ hlt (by rw [h1]; first | rfl | exact HP.out)
            rw [hstep] at ho3
            have HO3 := Lib.hid ho3
            clear ho3 hg3 HO HX HY HB c1 hstep
            go_wp2_with fail
            go_roundw
            case rel => exact ⟨x + 1, by omega, by go_num, HO3, HX3, HY3, HB3⟩
            case measure => simp [intOf]; omega
        · have elx : decide ((x : Int) < 20) = false := decide_eq_false (by omega)
          obtain rfl : x = 20 := by omega
          rw [stR_next] at HO
          go_wp2_with fail
          go_roundw
          case rel => exact ⟨y + 1, by omega, by go_num, HO, HX, HY, HB⟩
          case measure => simp [intOf]; omega
    · have ely : decide ((y : Int) < 24) = false := decide_eq_false (by omega)
      obtain rfl : y = 24 := by omega
      rw [stR_all] at HO
      have c1 := HY.out.one.1
      obtain ⟨c0, f0⟩ := HX.out.one
      have hf0 := f0 0
      have X9 := HX.out.set 0 (.slice (some ⟨g, 0, none⟩) 24 24)
      obtain ⟨z0, _⟩ := X9.one
      have HG := grownBy_set wr w.heap.size 0 (.slice (some ⟨g, 0, none⟩) 24 24)
      have HO9 := Lib.hid (OwnI.kept HO.out HG (by right; simp [Value.ownBlock]; omega))
      have HB9 := Lib.hid (HB.out.grown HG HB.out.size (fun q hq => by cases hq; omega))
      clear X9 HG HO HX HB HY f0
      go_wp2_with fail
      exact bodyPost_ret (v := .tuple #[.agg #[.slice (some ⟨g, 0, none⟩) 24 24], .bool true]) (by simp [results, Tryd.results133, go_sem, z0]) rfl ⟨_, _, rfl, HO9.out, HB9.out⟩
theorem part_spec_no (d p : Int) (w : World) (h : ¬ ((0 ≤ d ∧ d ≤ 7) ∧ (0 ≤ p ∧ p ≤ 1))) : Calls Tryd.prog 133 #[.int .i64 d, .int .i64 p] w (AnsRB w [] 0 false) := by
  have b0 := BoxF.new w [.slice none 0 0] 26
  obtain ⟨c0, f0⟩ := b0.one
  have hf0 := f0 0
  clear b0
  by_cases hd : 0 ≤ d ∧ d ≤ 7
  · have CD := Lib.hid (fun W => in_any d 0 7 W true (decide_eq_true hd))
    have CQ := Lib.hid (fun W => in_any p 0 1 W false (decide_eq_false fun q => h ⟨hd, q⟩))
    clear h hd
    go_enter Tryd.func133, Tryd.ntmps133
    go_wp2_with fail
    refine (CD.out _).mono ?_
    rintro e w' ⟨rfl, rfl⟩
    go_wp2_with fail
    refine (CQ.out _).mono ?_
    rintro e w' ⟨rfl, rfl⟩
    go_wp2_with fail
    exact bodyPost_ret (v := .tuple #[.agg #[.slice none 0 0], .bool false]) (by simp [results, Tryd.results133, go_sem]) rfl ⟨_, _, rfl, ownI_nil _ _, (Below.refl _ w).alloc (Nat.le_refl _) _⟩
  · have CD := Lib.hid (fun W => in_any d 0 7 W false (decide_eq_false hd))
    clear h hd
    go_enter Tryd.func133, Tryd.ntmps133
    go_wp2_with fail
    refine (CD.out _).mono ?_
    rintro e w' ⟨rfl, rfl⟩
    go_wp2_with fail
    exact bodyPost_ret (v := .tuple #[.agg #[.slice none 0 0], .bool false]) (by simp [results, Tryd.results133, go_sem]) rfl ⟨_, _, rfl, ownI_nil _ _, (Below.refl _ w).alloc (Nat.le_refl _) _⟩

set_option maxRecDepth 100000 in
set_option maxHeartbeats 4000000 in
theorem ordc_spec (o : Int) (w : World) (ho0 : 0 ≤ o) (ho1 : o ≤ 7) : Calls Tryd.prog 134 #[.int .i64 o] w (AnsRB w (rowsOfR (regN (fun i j => ordB o i j))) 24 true) := by
  have b0 := BoxF.new w [.slice none 0 0] 26
  have X0 := Lib.hid b0
  have HB0 := Lib.hid ((Below.refl _ w).alloc (Nat.le_refl _) (.cells #[.slice none 0 0] 26 (0, 0)))
  clear b0
  have CD := Lib.hid (fun W => in_any o 0 7 W true (decide_eq_true ⟨ho0, ho1⟩))
  go_enter Tryd.func134, Tryd.ntmps134
  go_wp2_with fail
  refine (CD.out _).mono ?_
  rintro e w' ⟨rfl, rfl⟩
  go_wp2_with fail
  refine (l9Empty_any _).mono ?_
  rintro e w1 ⟨g, rfl, ho, hb1⟩
  have hgg := (World.ownsRow.lt ho g rfl)
  simp only [World.size_alloc] at hgg
  obtain ⟨q1, hq1⟩ : ∃ q, w1.heap.size = q := ⟨_, rfl⟩
  have HO := Lib.hid (OwnI.below (OwnI.low ho (B' := w.heap.size) (by simp)) ((Below.refl _ w1).alloc (Nat.le_refl _) (.cells #[.slice (some ⟨g, 0, none⟩) 24 24] 26 (0, 0))))
  have HX := Lib.hid ((X0.out.below hb1).alloc (.cells #[.slice (some ⟨g, 0, none⟩) 24 24] 26 (0, 0)))
  have HY := Lib.hid (BoxF.new w1 [.slice (some ⟨g, 0, none⟩) 24 24] 26)
  have HB1 := HB0.out.trans (hb1.mono HB0.out.size)
  have HB := Lib.hid (HB1.alloc HB1.size (.cells #[.slice (some ⟨g, 0, none⟩) 24 24] 26 (0, 0)))
  rw [← stR_start (fun i j => ordB o i j)] at HO
  rw [hq1] at HY hgg
  clear ho hb1 HB1 X0 HB0
  go_wp2_with fail
  go_loopw [5] (fun i wr => ∃ y : Nat, y ≤ 24 ∧ i = .int .i64 (y : Int) ∧ Hid (OwnI wr w.heap.size (some ⟨g, 0, none⟩) 24 24 (stR (fun i j => ordB o i j) y 0)) ∧ Hid (BoxF wr w.heap.size [.slice none 0 0] 26) ∧ Hid (BoxF wr q1 [.slice (some ⟨g, 0, none⟩) 24 24] 26) ∧ Hid (Below w.heap.size w wr)) (fun i _ => 24 - (intOf i).toNat)
  case atStart => exact ⟨0, by omega, rfl, HO, HX, HY, HB⟩
  case round =>
    obtain ⟨y, hy, rfl, HO, HX, HY, HB⟩ := hrel
    by_cases hlt : y < 24
    · have ely : decide ((y : Int) < 24) = true := decide_eq_true (by omega)
      go_wp2_with fail
      go_loopw [6] (fun i wr => ∃ x : Nat, x ≤ 20 ∧ i = .int .i64 (x : Int) ∧ Hid (OwnI wr w.heap.size (some ⟨g, 0, none⟩) 24 24 (stR (fun i j => ordB o i j) y x)) ∧ Hid (BoxF wr w.heap.size [.slice none 0 0] 26) ∧ Hid (BoxF wr q1 [.slice (some ⟨g, 0, none⟩) 24 24] 26) ∧ Hid (Below w.heap.size w wr)) (fun i _ => 20 - (intOf i).toNat)
      case atStart => exact ⟨0, by omega, rfl, HO, HX, HY, HB⟩
      case round =>
        obtain ⟨x, hx, rfl, HO, HX, HY, HB⟩ := hrel
        by_cases hlx : x < 20
        · have elx : decide ((x : Int) < 20) = true := decide_eq_true (by omega)
          have c1 := HY.out.one.1
          have CP := Lib.hid (fun W => l9Ord_any o x y W hlx hlt ho0 ho1)
          cases hpq : ordB o x y
          · rw [hpq] at CP
            have HP := Lib.hid (show (fun i j => ordB o i j) x y = false from hpq)
            go_wp2_with fail
            refine (CP.out _).mono ?_
            rintro e w2 ⟨rfl, rfl⟩
            go_wp2_with fail
            go_roundw
            case rel => exact ⟨x + 1, by omega, by go_num, by rw [stR_skip _ (by rw [HP.out]; simp)]; exact HO, HX, HY, HB⟩
            case measure => simp [intOf]; omega
          · rw [hpq] at CP
            have HP := Lib.hid (show (fun i j => ordB o i j) x y = true from hpq)
            go_wp2_with fail
            refine (CP.out _).mono ?_
            rintro e w2 ⟨rfl, rfl⟩
            go_wp2_with fail
            refine (l9Add_any _ w.heap.size g 24 x y _ _ HO.out hlx hlt (stR_at (fun i j => ordB o i j) x hlt) (rowN_ltk _ hx)).mono ?_
            rintro e w3 ⟨rfl, ho3, hg3⟩
            have HX3 := Lib.hid (HX.out.kept hg3 (by simp; omega))
            have HY3 := Lib.hid (HY.out.kept hg3 (by simp; omega))
            have HB3 := Lib.hid (HB.out.grown hg3 HB.out.size (fun q hq => by cases hq; omega))
            have hstep : (if shB x y = true then (stR (fun i j => ordB o i j) y x).set y ((rowN (fun i => shB i y && (fun i j => ordB o i j) i y) x ||| 2 ^ x : Nat) : Int) else stR (fun i j => ordB o i j) y x) = stR (fun i j => ordB o i j) y (x + 1) := by
              cases h1 : shB x y
              · exact (stR_skip _ (by rw [h1]; rfl)).symm
              · rw [if_pos rfl, rowN_or]; exact stR_set _ hlt (by rw [h1]; first | rfl | exact HP.out)
            rw [hstep] at ho3
            have HO3 := Lib.hid ho3
            clear ho3 hg3 HO HX HY HB c1 hstep
            go_wp2_with fail
            go_roundw
            case rel => exact ⟨x + 1, by omega, by go_num, HO3, HX3, HY3, HB3⟩
            case measure => simp [intOf]; omega
        · have elx : decide ((x : Int) < 20) = false := decide_eq_false (by omega)
          obtain rfl : x = 20 := by omega
          rw [stR_next] at HO
          go_wp2_with fail
          go_roundw
          case rel => exact ⟨y + 1, by omega, by go_num, HO, HX, HY, HB⟩
          case measure => simp [intOf]; omega
    · have ely : decide ((y : Int) < 24) = false := decide_eq_false (by omega)
      obtain rfl : y = 24 := by omega
      rw [stR_all] at HO
      have c1 := HY.out.one.1
      obtain ⟨c0, f0⟩ := HX.out.one
      have hf0 := f0 0
      have X9 := HX.out.set 0 (.slice (some ⟨g, 0, none⟩) 24 24)
      obtain ⟨z0, _⟩ := X9.one
      have HG := grownBy_set wr w.heap.size 0 (.slice (some ⟨g, 0, none⟩) 24 24)
      have HO9 := Lib.hid (OwnI.kept HO.out HG (by right; simp [Value.ownBlock]; omega))
      have HB9 := Lib.hid (HB.out.grown HG HB.out.size (fun q hq => by cases hq; omega))
      clear X9 HG HO HX HB HY f0
      go_wp2_with fail
      exact bodyPost_ret (v := .tuple #[.agg #[.slice (some ⟨g, 0, none⟩) 24 24], .bool true]) (by simp [results, Tryd.results134, go_sem, z0]) rfl ⟨_, _, rfl, HO9.out, HB9.out⟩
theorem ordc_spec_no (o : Int) (w : World) (h : ¬ (0 ≤ o ∧ o ≤ 7)) : Calls Tryd.prog 134 #[.int .i64 o] w (AnsRB w [] 0 false) := by
  have b0 := BoxF.new w [.slice none 0 0] 26
  obtain ⟨c0, f0⟩ := b0.one
  have hf0 := f0 0
  clear b0
  have CD := Lib.hid (fun W => in_any o 0 7 W false (decide_eq_false h))
  clear h
  go_enter Tryd.func134, Tryd.ntmps134
  go_wp2_with fail
  refine (CD.out _).mono ?_
  rintro e w' ⟨rfl, rfl⟩
  go_wp2_with fail
  exact bodyPost_ret (v := .tuple #[.agg #[.slice none 0 0], .bool false]) (by simp [results, Tryd.results134, go_sem]) rfl ⟨_, _, rfl, ownI_nil _ _, (Below.refl _ w).alloc (Nat.le_refl _) _⟩
end Go.Proofs.YthapidnjioindaaDoor
