/- Contract: l11Region of the model: the ordinary of arms with its line, and the ground. -/
import Derived.Test.YthapidnjioindaaDoorKJD
import Derived.Test.YthapidnjioindaaDoorKIC
import Derived.Deep.RegionHeld3
namespace Go.Proofs.YthapidnjioindaaDoor
open Go.RowKit

/-- The cells of the ordinary, or of the ground. -/
def partO (gr : Bool) (o l : Int) (i j : Nat) : Bool := ((decide (0 < o) && lnOrd o l i j) != gr)
set_option maxRecDepth 100000 in
set_option maxHeartbeats 16000000 in
theorem l11Region_any (i0 i1 i2 i3 i4 i5 i6 i7 i8 i9 i10 i11 i12 i13 i14 : Int) (gr : Bool) (w : World) (ho : 0 ≤ i4 ∧ i4 ≤ 7) (hl : 0 ≤ i5 ∧ i5 ≤ 4) : Calls Tryd.prog 70 #[.agg #[.int .i64 i0, .int .i64 i1, .int .i64 i2, .int .i64 i3, .int .i64 i4, .int .i64 i5, .int .i64 i6, .int .i64 i7, .int .i64 i8, .int .i64 i9, .int .i64 i10, .int .i64 i11, .int .i64 i12, .int .i64 i13, .int .i64 i14], .bool gr] w (AnsR w (regN (partO gr i4 i5))) := by
  obtain ⟨P, hP⟩ : ∃ P, partO gr i4 i5 = P := ⟨_, rfl⟩
  have HPF := Lib.hid (show ∀ i j, P i j = ((decide (0 < i4) && lnOrd i4 i5 i j) != gr) from fun i j => by rw [← hP]; rfl)
  rw [hP]
  clear hP
  obtain ⟨i0_, hi, hz0, hz1, hz2⟩ := info_parts infoI
  have XA := (BoxF.new w [.int .i64 i0, .int .i64 i1, .int .i64 i2, .int .i64 i3, .int .i64 i4, .int .i64 i5, .int .i64 i6, .int .i64 i7, .int .i64 i8, .int .i64 i9, .int .i64 i10, .int .i64 i11, .int .i64 i12, .int .i64 i13, .int .i64 i14] 60).alloc (.cells #[.slice none 0 0] 26 (0, 0))
  have X0 := BoxF.new (w.alloc (.cells #[.int .i64 i0, .int .i64 i1, .int .i64 i2, .int .i64 i3, .int .i64 i4, .int .i64 i5, .int .i64 i6, .int .i64 i7, .int .i64 i8, .int .i64 i9, .int .i64 i10, .int .i64 i11, .int .i64 i12, .int .i64 i13, .int .i64 i14] 60 (0, 0))) [.slice none 0 0] 26
  simp only [World.size_alloc] at X0
  have hb0 := ((Below.refl w.heap.size w).alloc (Nat.le_refl _) (.cells #[.int .i64 i0, .int .i64 i1, .int .i64 i2, .int .i64 i3, .int .i64 i4, .int .i64 i5, .int .i64 i6, .int .i64 i7, .int .i64 i8, .int .i64 i9, .int .i64 i10, .int .i64 i11, .int .i64 i12, .int .i64 i13, .int .i64 i14] 60 (0, 0))).alloc (by simp) (.cells #[.slice none 0 0] 26 (0, 0))
  have HA0 := Lib.hid XA
  have HX0 := Lib.hid X0
  have HB0 := Lib.hid hb0
  clear XA X0 hb0
  go_enter Tryd.func70, Tryd.ntmps70
  go_wp2_with (at_make; refine wpList_make_full _ rfl _ _ 24 rfl (w.heap.size + 1 + 1) 3 i0_ (.int .i64 0) 1 Tryd.underlying24 hi hz0 hz1 .i64 .i64 24 24 24 rfl rfl rfl rfl (by rw [hz2]; omega) (by unfold maxLen; omega) (by simp) ?_; intro w1 hown1 hgr1)
  have hfil : OwnI w1 (w.heap.size + 1 + 1) (some ⟨w.heap.size + 1 + 1, 0, none⟩) 24 24 (List.replicate 24 0) := by
    unfold OwnI
    rw [List.map_replicate, ← toList_madeCells_one]
    rw [Nat.mul_one] at hown1
    simp only [World.size_alloc] at hown1
    exact hown1
  have hgg := (World.ownsRow.lt hfil _ rfl).2
  obtain ⟨g, hg⟩ : ∃ g, w.heap.size + 1 + 1 = g := ⟨_, rfl⟩
  obtain ⟨q1, hq1⟩ : ∃ q, w1.heap.size = q := ⟨_, rfl⟩
  have HO := Lib.hid (OwnI.below (OwnI.low hfil (B' := w.heap.size) (by omega)) ((Below.refl _ w1).alloc (Nat.le_refl _) (.cells #[.slice (some ⟨w.heap.size + 1 + 1, 0, none⟩) 24 24] 26 (0, 0))))
  have HX := Lib.hid ((HX0.out.kept hgr1 (by simp)).alloc (.cells #[.slice (some ⟨w.heap.size + 1 + 1, 0, none⟩) 24 24] 26 (0, 0)))
  have HA := Lib.hid ((HA0.out.kept hgr1 (by simp)).alloc (.cells #[.slice (some ⟨w.heap.size + 1 + 1, 0, none⟩) 24 24] 26 (0, 0)))
  have HY := Lib.hid (BoxF.new w1 [.slice (some ⟨w.heap.size + 1 + 1, 0, none⟩) 24 24] 26)
  have HB1 := HB0.out.grown hgr1 (by simp; omega) (by simp)
  have HB := Lib.hid (HB1.alloc HB1.size (.cells #[.slice (some ⟨w.heap.size + 1 + 1, 0, none⟩) 24 24] 26 (0, 0)))
  rw [← stR_start P] at HO
  rw [hq1] at HY hgg
  rw [hg] at HO HX HA HY HB hgg
  clear hfil HB1 HX0 HA0 HB0 hown1 hgr1
  try simp only [World.size_alloc]
  try rw [hg]
  go_wp2_with fail
  go_loopw [6] (fun i wr => ∃ y : Nat, y ≤ 24 ∧ i = .int .i64 (y : Int) ∧ Hid (OwnI wr w.heap.size (some ⟨g, 0, none⟩) 24 24 (stR P y 0)) ∧ Hid (BoxF wr (w.heap.size + 1) [.slice none 0 0] 26) ∧ Hid (BoxF wr q1 [.slice (some ⟨g, 0, none⟩) 24 24] 26) ∧ Hid (BoxF wr w.heap.size [.int .i64 i0, .int .i64 i1, .int .i64 i2, .int .i64 i3, .int .i64 i4, .int .i64 i5, .int .i64 i6, .int .i64 i7, .int .i64 i8, .int .i64 i9, .int .i64 i10, .int .i64 i11, .int .i64 i12, .int .i64 i13, .int .i64 i14] 60) ∧ Hid (Below w.heap.size w wr)) (fun i _ => 24 - (intOf i).toNat)
  case atStart => exact ⟨0, by omega, rfl, HO, HX, HY, HA, HB⟩
  case round =>
    clear HO HX HY HA HB
    obtain ⟨y, hy, rfl, HO, HX, HY, HA, HB⟩ := hrel
    by_cases hlt : y < 24
    · have ely : decide ((y : Int) < 24) = true := decide_eq_true (by omega)
      go_wp2_with fail
      go_loopw [7] (fun i wr => ∃ x : Nat, x ≤ 20 ∧ i = .int .i64 (x : Int) ∧ Hid (OwnI wr w.heap.size (some ⟨g, 0, none⟩) 24 24 (stR P y x)) ∧ Hid (BoxF wr (w.heap.size + 1) [.slice none 0 0] 26) ∧ Hid (BoxF wr q1 [.slice (some ⟨g, 0, none⟩) 24 24] 26) ∧ Hid (BoxF wr w.heap.size [.int .i64 i0, .int .i64 i1, .int .i64 i2, .int .i64 i3, .int .i64 i4, .int .i64 i5, .int .i64 i6, .int .i64 i7, .int .i64 i8, .int .i64 i9, .int .i64 i10, .int .i64 i11, .int .i64 i12, .int .i64 i13, .int .i64 i14] 60) ∧ Hid (Below w.heap.size w wr)) (fun i _ => 20 - (intOf i).toNat)
      case atStart => exact ⟨0, by omega, rfl, HO, HX, HY, HA, HB⟩
      case round =>
        clear HO HX HY HA HB
        obtain ⟨x, hx, rfl, HO, HX, HY, HA, HB⟩ := hrel
        by_cases hlx : x < 20
        · have elx : decide ((x : Int) < 20) = true := decide_eq_true (by omega)
          have c1 := HY.out.one.1
          have d4 := HA.out.at 4
          have d5 := HA.out.at 5
          simp only [List.getElem?_cons_zero, List.getElem?_cons_succ] at d4 d5
          have hp2 : 2 ^ x < 1048576 := by
            have := Nat.pow_lt_pow_right (a := 2) (by decide) hlx
            omega
          have CI := fun W => l9In_any (x : Int) (y : Int) W
          rw [shZ_nat hlx hlt] at CI
          have CP := fun W => l10Ord_any i4 i5 x y W hlx hlt ho.1 ho.2 hl.1 hl.2
          obtain ⟨z, hz⟩ : ∃ z, shB x y = z := ⟨_, rfl⟩
          obtain ⟨v, hv⟩ : ∃ v, lnOrd i4 i5 x y = v := ⟨_, rfl⟩
          rw [hz] at CI
          rw [hv] at CP
          have CI := Lib.hid CI
          have CP := Lib.hid CP
          cases hp0 : (decide (0 < i4))
          · have HP0 := Lib.hid hp0
            cases z
            · have HZ := Lib.hid hz
              clear hz
              have HP := Lib.hid (show (shB x y && P x y) = false by rw [HZ.out] <;> rfl)
              go_wp2_with fail
              refine (CI.out _).mono ?_
              rintro e w' ⟨rfl, rfl⟩
              go_wp2_with fail
              go_roundw
              case rel => exact ⟨x + 1, by omega, by go_num, by rw [stR_skip _ HP.out]; exact HO, HX, HY, HA, HB⟩
              case measure => simp [intOf]; omega
            · have HZ := Lib.hid hz
              clear hz
              cases gr
              · skip
                have HP := Lib.hid (show (shB x y && P x y) = false by rw [HPF.out, HZ.out, HP0.out] <;> rfl)
                go_wp2_with fail
                refine (CI.out _).mono ?_
                rintro e w' ⟨rfl, rfl⟩
                go_wp2_with fail
                go_roundw
                case rel => exact ⟨x + 1, by omega, by go_num, by rw [stR_skip _ HP.out]; exact HO, HX, HY, HA, HB⟩
                case measure => simp [intOf]; omega
              · skip
                have HP := Lib.hid (show (shB x y && P x y) = true by rw [HPF.out, HZ.out, HP0.out] <;> rfl)
                have hset := stR_set P hlt HP.out
                have hNk := rowN_ltk (fun i => shB i y && P i y) hx
                have hor := i64_or_nat (rowN (fun i => shB i y && P i y) x) (2 ^ x) (by omega) (by omega)
                rw [rowN_or] at hor
                have hc1 := HO.out.cellAt y hlt
                rw [List.getElem?_map, stR_at P x hlt] at hc1
                simp only [Option.map_some] at hc1
                have hf1 := HO.out.frozenAt y
                obtain ⟨M, hM⟩ : ∃ M, rowN (fun i => shB i y && P i y) x + 2 ^ x = M := ⟨_, rfl⟩
                rw [hM] at hor hset
                have HST := Lib.hid (HO.out.stored y (.int .i64 ((M : Nat) : Int)))
                have HSET := Lib.hid hset
                clear hset hM
                generalize rowN (fun i => shB i y && P i y) x = N at *
                have HOR := Lib.hid hor
                clear hor
                go_wp2_with fail
                refine (CI.out _).mono ?_
                rintro e w' ⟨rfl, rfl⟩
                go_wp2_with fail
                go_region
                rw [wrap_pow hp2, HOR.out]
                have HO5 := Lib.hid (show OwnI (wr.setCell ⟨g, y, none⟩ (.int .i64 ((M : Nat) : Int))) w.heap.size (some ⟨g, 0, none⟩) 24 24 (stR P y (x + 1)) by unfold OwnI; rw [← HSET.out, List.map_set]; exact HST.out.1)
                have HX5 := Lib.hid (HX.out.kept HST.out.2 (by simp; omega))
                have HY5 := Lib.hid (HY.out.kept HST.out.2 (by simp; omega))
                have HA5 := Lib.hid (HA.out.kept HST.out.2 (by simp; omega))
                have HB5 := Lib.hid (HB.out.grown HST.out.2 HB.out.size (fun q hq => by cases hq; omega))
                clear HO HX HY HA HB c1 hc1 hf1 HST HSET HOR
                go_wp2_with fail
                go_roundw
                case rel => exact ⟨x + 1, by omega, by go_num, Lib.hid (HO5.out.drewN 1), Lib.hid (HX5.out.drew 1), Lib.hid (HY5.out.drew 1), Lib.hid (HA5.out.drew 1), Lib.hid (below_drewN' HB5.out 1)⟩
                case measure => simp [intOf]; omega
          · have HP0 := Lib.hid hp0
            cases z
            · have HZ := Lib.hid hz
              clear hz
              have HP := Lib.hid (show (shB x y && P x y) = false by rw [HZ.out] <;> rfl)
              go_wp2_with fail
              refine (CI.out _).mono ?_
              rintro e w' ⟨rfl, rfl⟩
              go_wp2_with fail
              refine (CI.out _).mono ?_
              rintro e w' ⟨rfl, rfl⟩
              go_wp2_with fail
              go_roundw
              case rel => exact ⟨x + 1, by omega, by go_num, by rw [stR_skip _ HP.out]; exact HO, HX, HY, HA, HB⟩
              case measure => simp [intOf]; omega
            · have HZ := Lib.hid hz
              clear hz
              cases v
              · have HV := Lib.hid hv
                clear hv
                cases gr
                · skip
                  go_wp2_with fail
                  refine (CI.out _).mono ?_
                  rintro e w' ⟨rfl, rfl⟩
                  go_wp2_with fail
                  refine (CP.out _).mono ?_
                  rintro e w2 ⟨rfl, hb2⟩
                  have HO2 := Lib.hid (HO.out.below hb2)
                  have HX2 := Lib.hid (HX.out.below hb2)
                  have HY2 := Lib.hid (HY.out.below hb2)
                  have HA2 := Lib.hid (HA.out.below hb2)
                  have HB2 := Lib.hid (HB.out.trans (hb2.mono HB.out.size))
                  clear hb2 HO HX HY HA HB c1 d4 d5
                  have HO := HO2
                  have HX := HX2
                  have HY := HY2
                  have HA := HA2
                  have HB := HB2
                  clear HO2 HX2 HY2 HA2 HB2
                  have c1 := HY.out.one.1
                  have HP := Lib.hid (show (shB x y && P x y) = false by rw [HPF.out, HZ.out, HP0.out, HV.out] <;> rfl)
                  go_wp2_with fail
                  refine (CI.out _).mono ?_
                  rintro e w' ⟨rfl, rfl⟩
                  go_wp2_with fail
                  go_roundw
                  case rel => exact ⟨x + 1, by omega, by go_num, by rw [stR_skip _ HP.out]; exact HO, HX, HY, HA, HB⟩
                  case measure => simp [intOf]; omega
                · skip
                  go_wp2_with fail
                  refine (CI.out _).mono ?_
                  rintro e w' ⟨rfl, rfl⟩
                  go_wp2_with fail
                  refine (CP.out _).mono ?_
                  rintro e w2 ⟨rfl, hb2⟩
                  have HO2 := Lib.hid (HO.out.below hb2)
                  have HX2 := Lib.hid (HX.out.below hb2)
                  have HY2 := Lib.hid (HY.out.below hb2)
                  have HA2 := Lib.hid (HA.out.below hb2)
                  have HB2 := Lib.hid (HB.out.trans (hb2.mono HB.out.size))
                  clear hb2 HO HX HY HA HB c1 d4 d5
                  have HO := HO2
                  have HX := HX2
                  have HY := HY2
                  have HA := HA2
                  have HB := HB2
                  clear HO2 HX2 HY2 HA2 HB2
                  have c1 := HY.out.one.1
                  have HP := Lib.hid (show (shB x y && P x y) = true by rw [HPF.out, HZ.out, HP0.out, HV.out] <;> rfl)
                  have hset := stR_set P hlt HP.out
                  have hNk := rowN_ltk (fun i => shB i y && P i y) hx
                  have hor := i64_or_nat (rowN (fun i => shB i y && P i y) x) (2 ^ x) (by omega) (by omega)
                  rw [rowN_or] at hor
                  have hc1 := HO.out.cellAt y hlt
                  rw [List.getElem?_map, stR_at P x hlt] at hc1
                  simp only [Option.map_some] at hc1
                  have hf1 := HO.out.frozenAt y
                  obtain ⟨M, hM⟩ : ∃ M, rowN (fun i => shB i y && P i y) x + 2 ^ x = M := ⟨_, rfl⟩
                  rw [hM] at hor hset
                  have HST := Lib.hid (HO.out.stored y (.int .i64 ((M : Nat) : Int)))
                  have HSET := Lib.hid hset
                  clear hset hM
                  generalize rowN (fun i => shB i y && P i y) x = N at *
                  have HOR := Lib.hid hor
                  clear hor
                  go_wp2_with fail
                  refine (CI.out _).mono ?_
                  rintro e w' ⟨rfl, rfl⟩
                  go_wp2_with fail
                  go_region
                  rw [wrap_pow hp2, HOR.out]
                  have HO5 := Lib.hid (show OwnI (w2.setCell ⟨g, y, none⟩ (.int .i64 ((M : Nat) : Int))) w.heap.size (some ⟨g, 0, none⟩) 24 24 (stR P y (x + 1)) by unfold OwnI; rw [← HSET.out, List.map_set]; exact HST.out.1)
                  have HX5 := Lib.hid (HX.out.kept HST.out.2 (by simp; omega))
                  have HY5 := Lib.hid (HY.out.kept HST.out.2 (by simp; omega))
                  have HA5 := Lib.hid (HA.out.kept HST.out.2 (by simp; omega))
                  have HB5 := Lib.hid (HB.out.grown HST.out.2 HB.out.size (fun q hq => by cases hq; omega))
                  clear HO HX HY HA HB c1 hc1 hf1 HST HSET HOR
                  go_wp2_with fail
                  go_roundw
                  case rel => exact ⟨x + 1, by omega, by go_num, Lib.hid (HO5.out.drewN 1), Lib.hid (HX5.out.drew 1), Lib.hid (HY5.out.drew 1), Lib.hid (HA5.out.drew 1), Lib.hid (below_drewN' HB5.out 1)⟩
                  case measure => simp [intOf]; omega
              · have HV := Lib.hid hv
                clear hv
                cases gr
                · skip
                  go_wp2_with fail
                  refine (CI.out _).mono ?_
                  rintro e w' ⟨rfl, rfl⟩
                  go_wp2_with fail
                  refine (CP.out _).mono ?_
                  rintro e w2 ⟨rfl, hb2⟩
                  have HO2 := Lib.hid (HO.out.below hb2)
                  have HX2 := Lib.hid (HX.out.below hb2)
                  have HY2 := Lib.hid (HY.out.below hb2)
                  have HA2 := Lib.hid (HA.out.below hb2)
                  have HB2 := Lib.hid (HB.out.trans (hb2.mono HB.out.size))
                  clear hb2 HO HX HY HA HB c1 d4 d5
                  have HO := HO2
                  have HX := HX2
                  have HY := HY2
                  have HA := HA2
                  have HB := HB2
                  clear HO2 HX2 HY2 HA2 HB2
                  have c1 := HY.out.one.1
                  have HP := Lib.hid (show (shB x y && P x y) = true by rw [HPF.out, HZ.out, HP0.out, HV.out] <;> rfl)
                  have hset := stR_set P hlt HP.out
                  have hNk := rowN_ltk (fun i => shB i y && P i y) hx
                  have hor := i64_or_nat (rowN (fun i => shB i y && P i y) x) (2 ^ x) (by omega) (by omega)
                  rw [rowN_or] at hor
                  have hc1 := HO.out.cellAt y hlt
                  rw [List.getElem?_map, stR_at P x hlt] at hc1
                  simp only [Option.map_some] at hc1
                  have hf1 := HO.out.frozenAt y
                  obtain ⟨M, hM⟩ : ∃ M, rowN (fun i => shB i y && P i y) x + 2 ^ x = M := ⟨_, rfl⟩
                  rw [hM] at hor hset
                  have HST := Lib.hid (HO.out.stored y (.int .i64 ((M : Nat) : Int)))
                  have HSET := Lib.hid hset
                  clear hset hM
                  generalize rowN (fun i => shB i y && P i y) x = N at *
                  have HOR := Lib.hid hor
                  clear hor
                  go_wp2_with fail
                  refine (CI.out _).mono ?_
                  rintro e w' ⟨rfl, rfl⟩
                  go_wp2_with fail
                  go_region
                  rw [wrap_pow hp2, HOR.out]
                  have HO5 := Lib.hid (show OwnI (w2.setCell ⟨g, y, none⟩ (.int .i64 ((M : Nat) : Int))) w.heap.size (some ⟨g, 0, none⟩) 24 24 (stR P y (x + 1)) by unfold OwnI; rw [← HSET.out, List.map_set]; exact HST.out.1)
                  have HX5 := Lib.hid (HX.out.kept HST.out.2 (by simp; omega))
                  have HY5 := Lib.hid (HY.out.kept HST.out.2 (by simp; omega))
                  have HA5 := Lib.hid (HA.out.kept HST.out.2 (by simp; omega))
                  have HB5 := Lib.hid (HB.out.grown HST.out.2 HB.out.size (fun q hq => by cases hq; omega))
                  clear HO HX HY HA HB c1 hc1 hf1 HST HSET HOR
                  go_wp2_with fail
                  go_roundw
                  case rel => exact ⟨x + 1, by omega, by go_num, Lib.hid (HO5.out.drewN 1), Lib.hid (HX5.out.drew 1), Lib.hid (HY5.out.drew 1), Lib.hid (HA5.out.drew 1), Lib.hid (below_drewN' HB5.out 1)⟩
                  case measure => simp [intOf]; omega
                · skip
                  go_wp2_with fail
                  refine (CI.out _).mono ?_
                  rintro e w' ⟨rfl, rfl⟩
                  go_wp2_with fail
                  refine (CP.out _).mono ?_
                  rintro e w2 ⟨rfl, hb2⟩
                  have HO2 := Lib.hid (HO.out.below hb2)
                  have HX2 := Lib.hid (HX.out.below hb2)
                  have HY2 := Lib.hid (HY.out.below hb2)
                  have HA2 := Lib.hid (HA.out.below hb2)
                  have HB2 := Lib.hid (HB.out.trans (hb2.mono HB.out.size))
                  clear hb2 HO HX HY HA HB c1 d4 d5
                  have HO := HO2
                  have HX := HX2
                  have HY := HY2
                  have HA := HA2
                  have HB := HB2
                  clear HO2 HX2 HY2 HA2 HB2
                  have c1 := HY.out.one.1
                  have HP := Lib.hid (show (shB x y && P x y) = false by rw [HPF.out, HZ.out, HP0.out, HV.out] <;> rfl)
                  go_wp2_with fail
                  refine (CI.out _).mono ?_
                  rintro e w' ⟨rfl, rfl⟩
                  go_wp2_with fail
                  go_roundw
                  case rel => exact ⟨x + 1, by omega, by go_num, by rw [stR_skip _ HP.out]; exact HO, HX, HY, HA, HB⟩
                  case measure => simp [intOf]; omega
        · have elx : decide ((x : Int) < 20) = false := decide_eq_false (by omega)
          obtain rfl : x = 20 := by omega
          rw [stR_next] at HO
          go_wp2_with fail
          go_roundw
          case rel => exact ⟨y + 1, by omega, by go_num, HO, HX, HY, HA, HB⟩
          case measure => simp [intOf]; omega
    · have ely : decide ((y : Int) < 24) = false := decide_eq_false (by omega)
      obtain rfl : y = 24 := by omega
      rw [stR_all] at HO
      have c1 := HY.out.one.1
      obtain ⟨c0, f0⟩ := HX.out.one
      have hf0 := f0 0
      have X9 := HX.out.set 0 (.slice (some ⟨g, 0, none⟩) 24 24)
      obtain ⟨z0, _⟩ := X9.one
      have HG := grownBy_set wr (w.heap.size + 1) 0 (.slice (some ⟨g, 0, none⟩) 24 24)
      have HO9 := Lib.hid (OwnI.kept HO.out HG (by right; simp [Value.ownBlock]; omega))
      have HB9 := Lib.hid (HB.out.grown HG HB.out.size (fun q hq => by cases hq; omega))
      clear X9 HG HO HX HY HA HB f0
      go_wp2_with fail
      exact bodyPost_ret (v := .agg #[.slice (some ⟨g, 0, none⟩) 24 24]) (by simp [results, Tryd.results70, go_sem, z0]) rfl ⟨_, rfl, HO9.out, HB9.out⟩
end Go.Proofs.YthapidnjioindaaDoor
