/- Contracts: the regions of chapter 10, of both sides. -/
import Derived.Test.YtkhpgggaaldhhaaDoorC10O
import Derived.Test.YtkhpgggaaldhhaaDoorC9R
import Derived.Test.YtkhpgggaaldhhaaDoorC10W
import Derived.Test.YtkhpgggaaldhhaaDoorC9T
import Derived.Deep.RegionHeld3
namespace Go.Proofs.YtkhpgggaaldhhaaDoor
open Go.RowKit

set_option maxRecDepth 100000 in
set_option maxHeartbeats 8000000 in
theorem fregion_spec (d l f s p : Int) (w : World) (hF : FOk d l f s) (hp0 : 0 ≤ p) (hp1 : p ≤ 1) : Calls Tryd.prog 21 #[.agg #[.int .i64 d, .int .i64 l, .int .i64 f, .int .i64 s], .int .i64 p] w (AnsRB w (rowsOfR (regN (fun i j => ((if lnFirst d l i j = true then (0 : Int) else 1) == p)))) 24 true) := by
  have XF0 := (BoxF.new w [.int .i64 d, .int .i64 l, .int .i64 f, .int .i64 s] 30).alloc (.cells #[.slice none 0 0] 35 (0, 0))
  have X00 := BoxF.new (w.alloc (.cells #[.int .i64 d, .int .i64 l, .int .i64 f, .int .i64 s] 30 (0, 0))) [.slice none 0 0] 35
  have hB0 := ((Below.refl w.heap.size w).alloc (Nat.le_refl _) (.cells #[.int .i64 d, .int .i64 l, .int .i64 f, .int .i64 s] 30 (0, 0))).alloc (by simp) (.cells #[.slice none 0 0] 35 (0, 0))
  simp only [World.size_alloc] at X00
  have d0 := XF0.at 0
  have d1 := XF0.at 1
  have d2 := XF0.at 2
  have d3 := XF0.at 3
  simp only [List.getElem?_cons_zero, List.getElem?_cons_succ] at d0 d1 d2 d3
  have XF0 := Lib.hid XF0
  have X00 := Lib.hid X00
  have hB0 := Lib.hid hB0
  have CF := Lib.hid (fun W => l3Good_dec d l f s W true (decide_eq_true hF))
  have CQ := Lib.hid (fun W => in_any p 0 1 W true (decide_eq_true ⟨hp0, hp1⟩))
  have hF := Lib.hid hF
  go_enter Tryd.func21, Tryd.ntmps21
  go_wp2_with fail
  refine (CF.out _).mono ?_
  rintro e w0_ ⟨rfl, hb0⟩
  have hs0 := hb0.size
  simp only [World.size_alloc] at hs0
  have XF := Lib.hid (XF0.out.below hb0)
  have X0 := Lib.hid (X00.out.below hb0)
  have HB0 := Lib.hid (hB0.out.trans (hb0.mono hB0.out.size))
  clear hb0 XF0 X00 hB0
  clear d0 d1 d2 d3
  go_wp2_with fail
  refine (CQ.out _).mono ?_
  rintro e w' ⟨rfl, rfl⟩
  go_wp2_with fail
  refine (l9Empty_any _).mono ?_
  rintro e w1 ⟨g, rfl, ho, hb1⟩
  have hgg := (World.ownsRow.lt ho g rfl)
  have hsz := HB0.out.size
  try simp only [World.size_alloc] at hgg hsz
  obtain ⟨q1, hq1⟩ : ∃ q, w1.heap.size = q := ⟨_, rfl⟩
  have HO := Lib.hid (OwnI.below (OwnI.low ho (B' := w.heap.size) (by first | omega | (simp; done) | (simp; omega))) ((Below.refl _ w1).alloc (Nat.le_refl _) (.cells #[.slice (some ⟨g, 0, none⟩) 24 24] 35 (0, 0))))
  have HX := Lib.hid ((X0.out.below hb1).alloc (.cells #[.slice (some ⟨g, 0, none⟩) 24 24] 35 (0, 0)))
  have XF_ := Lib.hid ((XF.out.below hb1).alloc (.cells #[.slice (some ⟨g, 0, none⟩) 24 24] 35 (0, 0)))
  clear XF
  have XF := XF_
  clear XF_
  have HY := Lib.hid (BoxF.new w1 [.slice (some ⟨g, 0, none⟩) 24 24] 35)
  have HB1 := HB0.out.trans (hb1.mono HB0.out.size)
  have HB := Lib.hid (HB1.alloc HB1.size (.cells #[.slice (some ⟨g, 0, none⟩) 24 24] 35 (0, 0)))
  rw [← stR_start (fun i j => ((if lnFirst d l i j = true then (0 : Int) else 1) == p))] at HO
  rw [hq1] at HY hgg
  clear ho hb1 HB1 X0 HB0
  go_wp2_with fail
  go_loopw [7] (fun i wr => ∃ y : Nat, y ≤ 24 ∧ i = .int .i64 (y : Int) ∧ Hid (OwnI wr w.heap.size (some ⟨g, 0, none⟩) 24 24 (stR (fun i j => ((if lnFirst d l i j = true then (0 : Int) else 1) == p)) y 0)) ∧ Hid (BoxF wr (w.heap.size + 1) [.slice none 0 0] 35) ∧ Hid (BoxF wr q1 [.slice (some ⟨g, 0, none⟩) 24 24] 35) ∧ Hid (Below w.heap.size w wr) ∧ Hid (BoxF wr w.heap.size [.int .i64 d, .int .i64 l, .int .i64 f, .int .i64 s] 30)) (fun i _ => 24 - (intOf i).toNat)
  case atStart => exact ⟨0, by omega, rfl, HO, HX, HY, HB, XF⟩
  case round =>
    obtain ⟨y, hy, rfl, HO, HX, HY, HB, XF⟩ := hrel
    by_cases hlt : y < 24
    · have ely : decide ((y : Int) < 24) = true := decide_eq_true (by omega)
      go_wp2_with fail
      go_loopw [8] (fun i wr => ∃ x : Nat, x ≤ 20 ∧ i = .int .i64 (x : Int) ∧ Hid (OwnI wr w.heap.size (some ⟨g, 0, none⟩) 24 24 (stR (fun i j => ((if lnFirst d l i j = true then (0 : Int) else 1) == p)) y x)) ∧ Hid (BoxF wr (w.heap.size + 1) [.slice none 0 0] 35) ∧ Hid (BoxF wr q1 [.slice (some ⟨g, 0, none⟩) 24 24] 35) ∧ Hid (Below w.heap.size w wr) ∧ Hid (BoxF wr w.heap.size [.int .i64 d, .int .i64 l, .int .i64 f, .int .i64 s] 30)) (fun i _ => 20 - (intOf i).toNat)
      case atStart => exact ⟨0, by omega, rfl, HO, HX, HY, HB, XF⟩
      case round =>
        obtain ⟨x, hx, rfl, HO, HX, HY, HB, XF⟩ := hrel
        by_cases hlx : x < 20
        · have elx : decide ((x : Int) < 20) = true := decide_eq_true (by omega)
          have d0 := XF.out.at 0
          have d1 := XF.out.at 1
          have d2 := XF.out.at 2
          have d3 := XF.out.at 3
          simp only [List.getElem?_cons_zero, List.getElem?_cons_succ] at d0 d1 d2 d3
          have CP := fun W => l10Part_any d l f s x y W hlx hlt hF.out.1.1 hF.out.1.2 hF.out.2.1.1 hF.out.2.1.2
          obtain ⟨v, hv⟩ : ∃ v : Int, (if lnFirst d l x y = true then (0 : Int) else 1) = v := ⟨_, rfl⟩
          rw [hv] at CP
          have CP := Lib.hid CP
          have HV := Lib.hid hv
          clear hv
          go_wp2_with fail
          refine (CP.out _).mono ?_
          rintro e w2 ⟨rfl, hb2⟩
          clear d0 d1 d2 d3
          have HO2 := Lib.hid (HO.out.below hb2)
          have HX2 := Lib.hid (HX.out.below hb2)
          have HY2 := Lib.hid (HY.out.below hb2)
          have HB2 := Lib.hid (HB.out.trans (hb2.mono HB.out.size))
          have XF2 := Lib.hid (XF.out.below hb2)
          clear hb2 HO HX HY HB XF
          have HO := HO2
          have HX := HX2
          have HY := HY2
          have HB := HB2
          have XF := XF2
          clear HO2 HX2 HY2 HB2 XF2
          have c1 := HY.out.one.1
          cases hvp : (v == p)
          · have HP := Lib.hid (show (fun i j => ((if lnFirst d l i j = true then (0 : Int) else 1) == p)) x y = false by show ((if lnFirst d l x y = true then (0 : Int) else 1) == p) = false; rw [HV.out]; exact hvp)
            go_wp2_with fail
            go_roundw
            case rel => exact ⟨x + 1, by omega, by go_num, by rw [stR_skip _ (by rw [HP.out]; simp)]; exact HO, HX, HY, HB, XF⟩
            case measure => simp [intOf]; omega
          · have HP := Lib.hid (show (fun i j => ((if lnFirst d l i j = true then (0 : Int) else 1) == p)) x y = true by show ((if lnFirst d l x y = true then (0 : Int) else 1) == p) = true; rw [HV.out]; exact hvp)
            go_wp2_with fail
            refine (l9Add_any _ w.heap.size g 24 x y _ _ HO.out hlx hlt (stR_at (fun i j => ((if lnFirst d l i j = true then (0 : Int) else 1) == p)) x hlt) (rowN_ltk _ hx)).mono ?_
            rintro e w3 ⟨rfl, ho3, hg3⟩
            have HX3 := Lib.hid (HX.out.kept hg3 (by simp; omega))
            have HY3 := Lib.hid (HY.out.kept hg3 (by simp; omega))
            have XF3 := Lib.hid (XF.out.kept hg3 (by simp; omega))
            have HB3 := Lib.hid (HB.out.grown hg3 HB.out.size (fun q hq => by cases hq; omega))
            have hstep : (if shB x y = true then (stR (fun i j => ((if lnFirst d l i j = true then (0 : Int) else 1) == p)) y x).set y ((rowN (fun i => shB i y && (fun i j => ((if lnFirst d l i j = true then (0 : Int) else 1) == p)) i y) x ||| 2 ^ x : Nat) : Int) else stR (fun i j => ((if lnFirst d l i j = true then (0 : Int) else 1) == p)) y x) = stR (fun i j => ((if lnFirst d l i j = true then (0 : Int) else 1) == p)) y (x + 1) := by
              cases h1 : shB x y
              · exact (stR_skip _ (by rw [h1]; rfl)).symm
              · rw [if_pos rfl, rowN_or]; exact stR_set _ hlt (by rw [h1]; first | rfl | exact HP.out)
            rw [hstep] at ho3
            have HO3 := Lib.hid ho3
            clear ho3 hg3 HO HX HY HB c1 hstep
            go_wp2_with fail
            go_roundw
            case rel => exact ⟨x + 1, by omega, by go_num, HO3, HX3, HY3, HB3, XF3⟩
            case measure => simp [intOf]; omega
        · have elx : decide ((x : Int) < 20) = false := decide_eq_false (by omega)
          obtain rfl : x = 20 := by omega
          rw [stR_next] at HO
          go_wp2_with fail
          go_roundw
          case rel => exact ⟨y + 1, by omega, by go_num, HO, HX, HY, HB, XF⟩
          case measure => simp [intOf]; omega
    · have ely : decide ((y : Int) < 24) = false := decide_eq_false (by omega)
      obtain rfl : y = 24 := by omega
      rw [stR_all] at HO
      have c1 := HY.out.one.1
      obtain ⟨c0, f0⟩ := HX.out.one
      have hf0 := f0 0
      have X9 := HX.out.set 0 (.slice (some ⟨g, 0, none⟩) 24 24)
      obtain ⟨z0, _⟩ := X9.one
      have HG := grownBy_set wr (w.heap.size + 1) 0 (.slice (some ⟨g, 0, none⟩) 24 24)
      have HO9 := Lib.hid (OwnI.kept HO.out HG (by right; first | (simp [Value.ownBlock]; done) | (simp [Value.ownBlock]; omega)))
      have HB9 := Lib.hid (HB.out.grown HG HB.out.size (fun q hq => by cases hq; omega))
      clear X9 HG HO HX HB HY f0
      go_wp2_with fail
      exact bodyPost_ret (v := .tuple #[.agg #[.slice (some ⟨g, 0, none⟩) 24 24], .bool true]) (by simp [results, Tryd.results21, go_sem, z0]) rfl ⟨_, _, rfl, HO9.out, HB9.out⟩
theorem fregion_spec_no (d l f s p : Int) (w : World) (h : ¬ (FOk d l f s ∧ (0 ≤ p ∧ p ≤ 1))) : Calls Tryd.prog 21 #[.agg #[.int .i64 d, .int .i64 l, .int .i64 f, .int .i64 s], .int .i64 p] w (AnsRB w [] 0 false) := by
  have XF0 := (BoxF.new w [.int .i64 d, .int .i64 l, .int .i64 f, .int .i64 s] 30).alloc (.cells #[.slice none 0 0] 35 (0, 0))
  have X00 := BoxF.new (w.alloc (.cells #[.int .i64 d, .int .i64 l, .int .i64 f, .int .i64 s] 30 (0, 0))) [.slice none 0 0] 35
  have hB0 := ((Below.refl w.heap.size w).alloc (Nat.le_refl _) (.cells #[.int .i64 d, .int .i64 l, .int .i64 f, .int .i64 s] 30 (0, 0))).alloc (by simp) (.cells #[.slice none 0 0] 35 (0, 0))
  simp only [World.size_alloc] at X00
  have d0 := XF0.at 0
  have d1 := XF0.at 1
  have d2 := XF0.at 2
  have d3 := XF0.at 3
  simp only [List.getElem?_cons_zero, List.getElem?_cons_succ] at d0 d1 d2 d3
  have XF0 := Lib.hid XF0
  have X00 := Lib.hid X00
  have hB0 := Lib.hid hB0
  by_cases hF : FOk d l f s
  · have CF := Lib.hid (fun W => l3Good_dec d l f s W true (decide_eq_true hF))
    have CQ := Lib.hid (fun W => in_any p 0 1 W false (decide_eq_false fun q => h ⟨hF, q⟩))
    clear h hF
    go_enter Tryd.func21, Tryd.ntmps21
    go_wp2_with fail
    refine (CF.out _).mono ?_
    rintro e w0_ ⟨rfl, hb0⟩
    have hs0 := hb0.size
    simp only [World.size_alloc] at hs0
    have XF := Lib.hid (XF0.out.below hb0)
    have X0 := Lib.hid (X00.out.below hb0)
    have HB0 := Lib.hid (hB0.out.trans (hb0.mono hB0.out.size))
    clear hb0 XF0 X00 hB0
    clear d0 d1 d2 d3
    go_wp2_with fail
    refine (CQ.out _).mono ?_
    rintro e w' ⟨rfl, rfl⟩
    obtain ⟨c0, f0⟩ := X0.out.one
    have hf0 := f0 0
    have HBN := HB0.out.setCell (p := ⟨w.heap.size + 1, 0, none⟩) (by show w.heap.size ≤ w.heap.size + 1; omega) (.slice none 0 0)
    have Z9 := (X0.out.set 0 (.slice none 0 0)).one.1
    go_wp2_with fail
    exact bodyPost_ret (v := .tuple #[.agg #[.slice none 0 0], .bool false]) (by simp [results, Tryd.results21, go_sem, Z9]) rfl ⟨_, _, rfl, ownI_nil _ _, HBN⟩
  · have CF := Lib.hid (fun W => l3Good_dec d l f s W false (decide_eq_false hF))
    clear h hF
    go_enter Tryd.func21, Tryd.ntmps21
    go_wp2_with fail
    refine (CF.out _).mono ?_
    rintro e w0_ ⟨rfl, hb0⟩
    have hs0 := hb0.size
    simp only [World.size_alloc] at hs0
    have XF := Lib.hid (XF0.out.below hb0)
    have X0 := Lib.hid (X00.out.below hb0)
    have HB0 := Lib.hid (hB0.out.trans (hb0.mono hB0.out.size))
    clear hb0 XF0 X00 hB0
    clear d0 d1 d2 d3
    obtain ⟨c0, f0⟩ := X0.out.one
    have hf0 := f0 0
    have HBN := HB0.out.setCell (p := ⟨w.heap.size + 1, 0, none⟩) (by show w.heap.size ≤ w.heap.size + 1; omega) (.slice none 0 0)
    have Z9 := (X0.out.set 0 (.slice none 0 0)).one.1
    go_wp2_with fail
    exact bodyPost_ret (v := .tuple #[.agg #[.slice none 0 0], .bool false]) (by simp [results, Tryd.results21, go_sem, Z9]) rfl ⟨_, _, rfl, ownI_nil _ _, HBN⟩
set_option maxRecDepth 100000 in
set_option maxHeartbeats 8000000 in
theorem lordc_spec (o l : Int) (w : World) (ho : 0 ≤ o ∧ o ≤ 7) (hl : 0 ≤ l ∧ l ≤ 4) : Calls Tryd.prog 39 #[.int .i64 o, .int .i64 l] w (AnsRB w (rowsOfR (regN (fun i j => lnOrd o l i j))) 24 true) := by
  have X00 := BoxF.new w [.slice none 0 0] 35
  have hB0 := (Below.refl w.heap.size w).alloc (Nat.le_refl _) (.cells #[.slice none 0 0] 35 (0, 0))
  have X0 := Lib.hid X00
  have HB0 := Lib.hid hB0
  clear X00 hB0
  have CF := Lib.hid (fun W => in_any o 0 7 W true (decide_eq_true ho))
  have CQ := Lib.hid (fun W => l10Line_any l W true (decide_eq_true hl))
  have hF := Lib.hid (And.intro ho hl)
  go_enter Tryd.func39, Tryd.ntmps39
  go_wp2_with fail
  refine (CF.out _).mono ?_
  rintro e w' ⟨rfl, rfl⟩
  go_wp2_with fail
  refine (CQ.out _).mono ?_
  rintro e w' ⟨rfl, rfl⟩
  go_wp2_with fail
  refine (l9Empty_any _).mono ?_
  rintro e w1 ⟨g, rfl, ho, hb1⟩
  have hgg := (World.ownsRow.lt ho g rfl)
  have hsz := HB0.out.size
  try simp only [World.size_alloc] at hgg hsz
  obtain ⟨q1, hq1⟩ : ∃ q, w1.heap.size = q := ⟨_, rfl⟩
  have HO := Lib.hid (OwnI.below (OwnI.low ho (B' := w.heap.size) (by first | omega | (simp; done) | (simp; omega))) ((Below.refl _ w1).alloc (Nat.le_refl _) (.cells #[.slice (some ⟨g, 0, none⟩) 24 24] 35 (0, 0))))
  have HX := Lib.hid ((X0.out.below hb1).alloc (.cells #[.slice (some ⟨g, 0, none⟩) 24 24] 35 (0, 0)))
  have HY := Lib.hid (BoxF.new w1 [.slice (some ⟨g, 0, none⟩) 24 24] 35)
  have HB1 := HB0.out.trans (hb1.mono HB0.out.size)
  have HB := Lib.hid (HB1.alloc HB1.size (.cells #[.slice (some ⟨g, 0, none⟩) 24 24] 35 (0, 0)))
  rw [← stR_start (fun i j => lnOrd o l i j)] at HO
  rw [hq1] at HY hgg
  clear ho hb1 HB1 X0 HB0
  go_wp2_with fail
  go_loopw [7] (fun i wr => ∃ y : Nat, y ≤ 24 ∧ i = .int .i64 (y : Int) ∧ Hid (OwnI wr w.heap.size (some ⟨g, 0, none⟩) 24 24 (stR (fun i j => lnOrd o l i j) y 0)) ∧ Hid (BoxF wr w.heap.size [.slice none 0 0] 35) ∧ Hid (BoxF wr q1 [.slice (some ⟨g, 0, none⟩) 24 24] 35) ∧ Hid (Below w.heap.size w wr)) (fun i _ => 24 - (intOf i).toNat)
  case atStart => exact ⟨0, by omega, rfl, HO, HX, HY, HB⟩
  case round =>
    obtain ⟨y, hy, rfl, HO, HX, HY, HB⟩ := hrel
    by_cases hlt : y < 24
    · have ely : decide ((y : Int) < 24) = true := decide_eq_true (by omega)
      go_wp2_with fail
      go_loopw [8] (fun i wr => ∃ x : Nat, x ≤ 20 ∧ i = .int .i64 (x : Int) ∧ Hid (OwnI wr w.heap.size (some ⟨g, 0, none⟩) 24 24 (stR (fun i j => lnOrd o l i j) y x)) ∧ Hid (BoxF wr w.heap.size [.slice none 0 0] 35) ∧ Hid (BoxF wr q1 [.slice (some ⟨g, 0, none⟩) 24 24] 35) ∧ Hid (Below w.heap.size w wr)) (fun i _ => 20 - (intOf i).toNat)
      case atStart => exact ⟨0, by omega, rfl, HO, HX, HY, HB⟩
      case round =>
        obtain ⟨x, hx, rfl, HO, HX, HY, HB⟩ := hrel
        by_cases hlx : x < 20
        · have elx : decide ((x : Int) < 20) = true := decide_eq_true (by omega)
          have CP := fun W => l10Ord_any o l x y W hlx hlt hF.out.1.1 hF.out.1.2 hF.out.2.1 hF.out.2.2
          have c1 := HY.out.one.1
          obtain ⟨v, hv⟩ : ∃ v, lnOrd o l x y = v := ⟨_, rfl⟩
          rw [hv] at CP
          have CP := Lib.hid CP
          have HV := Lib.hid hv
          clear hv
          cases v
          · go_wp2_with fail
            refine (CP.out _).mono ?_
            rintro e w2 ⟨rfl, hb2⟩
            have HO2 := Lib.hid (HO.out.below hb2)
            have HX2 := Lib.hid (HX.out.below hb2)
            have HY2 := Lib.hid (HY.out.below hb2)
            have HB2 := Lib.hid (HB.out.trans (hb2.mono HB.out.size))
            clear hb2 HO HX HY HB 
            have HO := HO2
            have HX := HX2
            have HY := HY2
            have HB := HB2
            clear HO2 HX2 HY2 HB2 
            have HP := Lib.hid (show (fun i j => lnOrd o l i j) x y = false from HV.out)
            go_wp2_with fail
            go_roundw
            case rel => exact ⟨x + 1, by omega, by go_num, by rw [stR_skip _ (by rw [HP.out]; simp)]; exact HO, HX, HY, HB⟩
            case measure => simp [intOf]; omega
          · go_wp2_with fail
            refine (CP.out _).mono ?_
            rintro e w2 ⟨rfl, hb2⟩
            have HO2 := Lib.hid (HO.out.below hb2)
            have HX2 := Lib.hid (HX.out.below hb2)
            have HY2 := Lib.hid (HY.out.below hb2)
            have HB2 := Lib.hid (HB.out.trans (hb2.mono HB.out.size))
            clear hb2 HO HX HY HB 
            have HO := HO2
            have HX := HX2
            have HY := HY2
            have HB := HB2
            clear HO2 HX2 HY2 HB2 
            have c1 := HY.out.one.1
            have HP := Lib.hid (show (fun i j => lnOrd o l i j) x y = true from HV.out)
            go_wp2_with fail
            refine (l9Add_any _ w.heap.size g 24 x y _ _ HO.out hlx hlt (stR_at (fun i j => lnOrd o l i j) x hlt) (rowN_ltk _ hx)).mono ?_
            rintro e w3 ⟨rfl, ho3, hg3⟩
            have HX3 := Lib.hid (HX.out.kept hg3 (by simp; omega))
            have HY3 := Lib.hid (HY.out.kept hg3 (by simp; omega))
            have HB3 := Lib.hid (HB.out.grown hg3 HB.out.size (fun q hq => by cases hq; omega))
            have hstep : (if shB x y = true then (stR (fun i j => lnOrd o l i j) y x).set y ((rowN (fun i => shB i y && (fun i j => lnOrd o l i j) i y) x ||| 2 ^ x : Nat) : Int) else stR (fun i j => lnOrd o l i j) y x) = stR (fun i j => lnOrd o l i j) y (x + 1) := by
              cases h1 : shB x y
              · exact (stR_skip _ (by rw [h1]; rfl)).symm
              · rw [if_pos rfl, rowN_or]; exact stR_set _ hlt (by rw [h1]; first | rfl | exact HP.out)
            rw [hstep] at ho3
            have HO3 := Lib.hid ho3
            clear ho3 hg3 HO HX HY HB c1 hstep
            go_wp2_with fail
            go_roundw
            case rel => exact ⟨x + 1, by omega, by go_num, HO3, HX3, HY3, HB3⟩
            case measure => simp [intOf]; omega
        · have elx : decide ((x : Int) < 20) = false := decide_eq_false (by omega)
          obtain rfl : x = 20 := by omega
          rw [stR_next] at HO
          go_wp2_with fail
          go_roundw
          case rel => exact ⟨y + 1, by omega, by go_num, HO, HX, HY, HB⟩
          case measure => simp [intOf]; omega
    · have ely : decide ((y : Int) < 24) = false := decide_eq_false (by omega)
      obtain rfl : y = 24 := by omega
      rw [stR_all] at HO
      have c1 := HY.out.one.1
      obtain ⟨c0, f0⟩ := HX.out.one
      have hf0 := f0 0
      have X9 := HX.out.set 0 (.slice (some ⟨g, 0, none⟩) 24 24)
      obtain ⟨z0, _⟩ := X9.one
      have HG := grownBy_set wr w.heap.size 0 (.slice (some ⟨g, 0, none⟩) 24 24)
      have HO9 := Lib.hid (OwnI.kept HO.out HG (by right; first | (simp [Value.ownBlock]; done) | (simp [Value.ownBlock]; omega)))
      have HB9 := Lib.hid (HB.out.grown HG HB.out.size (fun q hq => by cases hq; omega))
      clear X9 HG HO HX HB HY f0
      go_wp2_with fail
      exact bodyPost_ret (v := .tuple #[.agg #[.slice (some ⟨g, 0, none⟩) 24 24], .bool true]) (by simp [results, Tryd.results39, go_sem, z0]) rfl ⟨_, _, rfl, HO9.out, HB9.out⟩
theorem lordc_spec_no (o l : Int) (w : World) (h : ¬ ((0 ≤ o ∧ o ≤ 7) ∧ (0 ≤ l ∧ l ≤ 4))) : Calls Tryd.prog 39 #[.int .i64 o, .int .i64 l] w (AnsRB w [] 0 false) := by
  have X00 := BoxF.new w [.slice none 0 0] 35
  have hB0 := (Below.refl w.heap.size w).alloc (Nat.le_refl _) (.cells #[.slice none 0 0] 35 (0, 0))
  have X0 := Lib.hid X00
  have HB0 := Lib.hid hB0
  clear X00 hB0
  by_cases hF : 0 ≤ o ∧ o ≤ 7
  · have CF := Lib.hid (fun W => in_any o 0 7 W true (decide_eq_true hF))
    have CQ := Lib.hid (fun W => l10Line_any l W false (decide_eq_false fun q => h ⟨hF, q⟩))
    clear h hF
    go_enter Tryd.func39, Tryd.ntmps39
    go_wp2_with fail
    refine (CF.out _).mono ?_
    rintro e w' ⟨rfl, rfl⟩
    go_wp2_with fail
    refine (CQ.out _).mono ?_
    rintro e w' ⟨rfl, rfl⟩
    have HBN := HB0.out
    go_wp2_with fail
    exact bodyPost_ret (v := .tuple #[.agg #[.slice none 0 0], .bool false]) (by simp [results, Tryd.results39, go_sem]) rfl ⟨_, _, rfl, ownI_nil _ _, HBN⟩
  · have CF := Lib.hid (fun W => in_any o 0 7 W false (decide_eq_false hF))
    clear h hF
    go_enter Tryd.func39, Tryd.ntmps39
    go_wp2_with fail
    refine (CF.out _).mono ?_
    rintro e w' ⟨rfl, rfl⟩
    have HBN := HB0.out
    go_wp2_with fail
    exact bodyPost_ret (v := .tuple #[.agg #[.slice none 0 0], .bool false]) (by simp [results, Tryd.results39, go_sem]) rfl ⟨_, _, rfl, ownI_nil _ _, HBN⟩
set_option maxRecDepth 100000 in
set_option maxHeartbeats 8000000 in
theorem swung_spec (d l f s : Int) (w : World) (hF : FOk d l f s) : Calls Tryd.prog 36 #[.agg #[.int .i64 d, .int .i64 l, .int .i64 f, .int .i64 s]] w (AnsRB w (rowsOfR (regN (fun i j => (lnFirst d l i j != lnFirst d 0 i j)))) 24 true) := by
  have XF0 := (BoxF.new w [.int .i64 d, .int .i64 l, .int .i64 f, .int .i64 s] 30).alloc (.cells #[.slice none 0 0] 35 (0, 0))
  have X00 := BoxF.new (w.alloc (.cells #[.int .i64 d, .int .i64 l, .int .i64 f, .int .i64 s] 30 (0, 0))) [.slice none 0 0] 35
  have hB0 := ((Below.refl w.heap.size w).alloc (Nat.le_refl _) (.cells #[.int .i64 d, .int .i64 l, .int .i64 f, .int .i64 s] 30 (0, 0))).alloc (by simp) (.cells #[.slice none 0 0] 35 (0, 0))
  simp only [World.size_alloc] at X00
  have d0 := XF0.at 0
  have d1 := XF0.at 1
  have d2 := XF0.at 2
  have d3 := XF0.at 3
  simp only [List.getElem?_cons_zero, List.getElem?_cons_succ] at d0 d1 d2 d3
  have XF0 := Lib.hid XF0
  have X00 := Lib.hid X00
  have hB0 := Lib.hid hB0
  have CF := Lib.hid (fun W => l3Good_dec d l f s W true (decide_eq_true hF))
  have hF := Lib.hid hF
  go_enter Tryd.func36, Tryd.ntmps36
  go_wp2_with fail
  refine (CF.out _).mono ?_
  rintro e w0_ ⟨rfl, hb0⟩
  have hs0 := hb0.size
  simp only [World.size_alloc] at hs0
  have XF := Lib.hid (XF0.out.below hb0)
  have X0 := Lib.hid (X00.out.below hb0)
  have HB0 := Lib.hid (hB0.out.trans (hb0.mono hB0.out.size))
  clear hb0 XF0 X00 hB0
  clear d0 d1 d2 d3
  have d0 := XF.out.at 0
  have d1 := XF.out.at 1
  have d2 := XF.out.at 2
  have d3 := XF.out.at 3
  simp only [List.getElem?_cons_zero, List.getElem?_cons_succ] at d0 d1 d2 d3
  have XS := Lib.hid (BoxF.new w0_ [.int .i64 d, .int .i64 0, .int .i64 f, .int .i64 s] 30)
  have XF_ := Lib.hid (XF.out.alloc (.cells #[.int .i64 d, .int .i64 0, .int .i64 f, .int .i64 s] 30 (0, 0)))
  have X0_ := Lib.hid (X0.out.alloc (.cells #[.int .i64 d, .int .i64 0, .int .i64 f, .int .i64 s] 30 (0, 0)))
  have HB0_ := Lib.hid (HB0.out.alloc HB0.out.size (.cells #[.int .i64 d, .int .i64 0, .int .i64 f, .int .i64 s] 30 (0, 0)))
  clear XF X0 HB0
  have XF := XF_
  have X0 := X0_
  have HB0 := HB0_
  clear XF_ X0_ HB0_
  obtain ⟨qs, hqs⟩ : ∃ q, w0_.heap.size = q := ⟨_, rfl⟩
  rw [hqs] at XS hs0
  change Hid (BoxF (w0_.alloc (.cells #[.int .i64 d, .int .i64 0, .int .i64 f, .int .i64 s] 30 (0, 0))) qs [.int .i64 d, .int .i64 0, .int .i64 f, .int .i64 s] 30) at XS
  go_wp2_with fail
  refine (l9Empty_any _).mono ?_
  rintro e w1 ⟨g, rfl, ho, hb1⟩
  have hgg := (World.ownsRow.lt ho g rfl)
  have hsz := HB0.out.size
  try simp only [World.size_alloc] at hgg hsz
  obtain ⟨q1, hq1⟩ : ∃ q, w1.heap.size = q := ⟨_, rfl⟩
  have HO := Lib.hid (OwnI.below (OwnI.low ho (B' := w.heap.size) (by first | omega | (simp; done) | (simp; omega))) ((Below.refl _ w1).alloc (Nat.le_refl _) (.cells #[.slice (some ⟨g, 0, none⟩) 24 24] 35 (0, 0))))
  have HX := Lib.hid ((X0.out.below hb1).alloc (.cells #[.slice (some ⟨g, 0, none⟩) 24 24] 35 (0, 0)))
  have XF_ := Lib.hid ((XF.out.below hb1).alloc (.cells #[.slice (some ⟨g, 0, none⟩) 24 24] 35 (0, 0)))
  have XS_ := Lib.hid ((XS.out.below hb1).alloc (.cells #[.slice (some ⟨g, 0, none⟩) 24 24] 35 (0, 0)))
  clear XF XS
  have XF := XF_
  have XS := XS_
  clear XF_ XS_
  have HY := Lib.hid (BoxF.new w1 [.slice (some ⟨g, 0, none⟩) 24 24] 35)
  have HB1 := HB0.out.trans (hb1.mono HB0.out.size)
  have HB := Lib.hid (HB1.alloc HB1.size (.cells #[.slice (some ⟨g, 0, none⟩) 24 24] 35 (0, 0)))
  rw [← stR_start (fun i j => (lnFirst d l i j != lnFirst d 0 i j))] at HO
  rw [hq1] at HY hgg
  clear ho hb1 HB1 X0 HB0
  go_wp2_with fail
  go_loopw [6] (fun i wr => ∃ y : Nat, y ≤ 24 ∧ i = .int .i64 (y : Int) ∧ Hid (OwnI wr w.heap.size (some ⟨g, 0, none⟩) 24 24 (stR (fun i j => (lnFirst d l i j != lnFirst d 0 i j)) y 0)) ∧ Hid (BoxF wr (w.heap.size + 1) [.slice none 0 0] 35) ∧ Hid (BoxF wr q1 [.slice (some ⟨g, 0, none⟩) 24 24] 35) ∧ Hid (Below w.heap.size w wr) ∧ Hid (BoxF wr w.heap.size [.int .i64 d, .int .i64 l, .int .i64 f, .int .i64 s] 30) ∧ Hid (BoxF wr qs [.int .i64 d, .int .i64 0, .int .i64 f, .int .i64 s] 30)) (fun i _ => 24 - (intOf i).toNat)
  case atStart => exact ⟨0, by omega, rfl, HO, HX, HY, HB, XF, XS⟩
  case round =>
    obtain ⟨y, hy, rfl, HO, HX, HY, HB, XF, XS⟩ := hrel
    by_cases hlt : y < 24
    · have ely : decide ((y : Int) < 24) = true := decide_eq_true (by omega)
      go_wp2_with fail
      go_loopw [7] (fun i wr => ∃ x : Nat, x ≤ 20 ∧ i = .int .i64 (x : Int) ∧ Hid (OwnI wr w.heap.size (some ⟨g, 0, none⟩) 24 24 (stR (fun i j => (lnFirst d l i j != lnFirst d 0 i j)) y x)) ∧ Hid (BoxF wr (w.heap.size + 1) [.slice none 0 0] 35) ∧ Hid (BoxF wr q1 [.slice (some ⟨g, 0, none⟩) 24 24] 35) ∧ Hid (Below w.heap.size w wr) ∧ Hid (BoxF wr w.heap.size [.int .i64 d, .int .i64 l, .int .i64 f, .int .i64 s] 30) ∧ Hid (BoxF wr qs [.int .i64 d, .int .i64 0, .int .i64 f, .int .i64 s] 30)) (fun i _ => 20 - (intOf i).toNat)
      case atStart => exact ⟨0, by omega, rfl, HO, HX, HY, HB, XF, XS⟩
      case round =>
        obtain ⟨x, hx, rfl, HO, HX, HY, HB, XF, XS⟩ := hrel
        by_cases hlx : x < 20
        · have elx : decide ((x : Int) < 20) = true := decide_eq_true (by omega)
          obtain ⟨v, hv⟩ : ∃ v : Int, (if lnFirst d l x y = true then (0 : Int) else 1) = v := ⟨_, rfl⟩
          obtain ⟨u, hu⟩ : ∃ v : Int, (if lnFirst d 0 x y = true then (0 : Int) else 1) = v := ⟨_, rfl⟩
          have huv : (v != u) = (lnFirst d l x y != lnFirst d 0 x y) := by rw [← hv, ← hu]; cases lnFirst d l x y <;> cases lnFirst d 0 x y <;> rfl
          have CP := fun W => l10Part_any d l f s x y W hlx hlt hF.out.1.1 hF.out.1.2 hF.out.2.1.1 hF.out.2.1.2
          have CQ := fun W => l10Part_any d 0 f s x y W hlx hlt hF.out.1.1 hF.out.1.2 (by omega) (by omega)
          rw [hv] at CP
          rw [hu] at CQ
          have Q : ∀ (W W' : World), (W.cell? ⟨w.heap.size, 0, none⟩ = some (.int .i64 d) ∧ W.cell? ⟨w.heap.size, 1, none⟩ = some (.int .i64 l) ∧ W.cell? ⟨w.heap.size, 2, none⟩ = some (.int .i64 f) ∧ W.cell? ⟨w.heap.size, 3, none⟩ = some (.int .i64 s) ∧ W.cell? ⟨qs, 0, none⟩ = some (.int .i64 d) ∧ W.cell? ⟨qs, 1, none⟩ = some (.int .i64 0) ∧ W.cell? ⟨qs, 2, none⟩ = some (.int .i64 f) ∧ W.cell? ⟨qs, 3, none⟩ = some (.int .i64 s) ∧ Below wr.heap.size wr W) → Below W.heap.size W W' → (W'.cell? ⟨w.heap.size, 0, none⟩ = some (.int .i64 d) ∧ W'.cell? ⟨w.heap.size, 1, none⟩ = some (.int .i64 l) ∧ W'.cell? ⟨w.heap.size, 2, none⟩ = some (.int .i64 f) ∧ W'.cell? ⟨w.heap.size, 3, none⟩ = some (.int .i64 s) ∧ W'.cell? ⟨qs, 0, none⟩ = some (.int .i64 d) ∧ W'.cell? ⟨qs, 1, none⟩ = some (.int .i64 0) ∧ W'.cell? ⟨qs, 2, none⟩ = some (.int .i64 f) ∧ W'.cell? ⟨qs, 3, none⟩ = some (.int .i64 s) ∧ Below wr.heap.size wr W') := fun W W' h hbb => by
            have hs := h.2.2.2.2.2.2.2.2.size
            have l1 := Nat.lt_of_lt_of_le XF.out.lt hs
            have l2 := Nat.lt_of_lt_of_le XS.out.lt hs
            exact ⟨(hbb.cell (p := ⟨w.heap.size, 0, none⟩) l1).trans h.1, (hbb.cell (p := ⟨w.heap.size, 1, none⟩) l1).trans h.2.1, (hbb.cell (p := ⟨w.heap.size, 2, none⟩) l1).trans h.2.2.1, (hbb.cell (p := ⟨w.heap.size, 3, none⟩) l1).trans h.2.2.2.1, (hbb.cell (p := ⟨qs, 0, none⟩) l2).trans h.2.2.2.2.1, (hbb.cell (p := ⟨qs, 1, none⟩) l2).trans h.2.2.2.2.2.1, (hbb.cell (p := ⟨qs, 2, none⟩) l2).trans h.2.2.2.2.2.2.1, (hbb.cell (p := ⟨qs, 3, none⟩) l2).trans h.2.2.2.2.2.2.2.1, h.2.2.2.2.2.2.2.2.trans (hbb.mono hs)⟩
          have CP9 := Lib.hid (fun W (h : W.cell? ⟨w.heap.size, 0, none⟩ = some (.int .i64 d) ∧ W.cell? ⟨w.heap.size, 1, none⟩ = some (.int .i64 l) ∧ W.cell? ⟨w.heap.size, 2, none⟩ = some (.int .i64 f) ∧ W.cell? ⟨w.heap.size, 3, none⟩ = some (.int .i64 s) ∧ W.cell? ⟨qs, 0, none⟩ = some (.int .i64 d) ∧ W.cell? ⟨qs, 1, none⟩ = some (.int .i64 0) ∧ W.cell? ⟨qs, 2, none⟩ = some (.int .i64 f) ∧ W.cell? ⟨qs, 3, none⟩ = some (.int .i64 s) ∧ Below wr.heap.size wr W) => (CP W).mono (fun e w' hh => And.intro hh.1 (Q _ _ h hh.2)))
          have CQ9 := Lib.hid (fun W (h : W.cell? ⟨w.heap.size, 0, none⟩ = some (.int .i64 d) ∧ W.cell? ⟨w.heap.size, 1, none⟩ = some (.int .i64 l) ∧ W.cell? ⟨w.heap.size, 2, none⟩ = some (.int .i64 f) ∧ W.cell? ⟨w.heap.size, 3, none⟩ = some (.int .i64 s) ∧ W.cell? ⟨qs, 0, none⟩ = some (.int .i64 d) ∧ W.cell? ⟨qs, 1, none⟩ = some (.int .i64 0) ∧ W.cell? ⟨qs, 2, none⟩ = some (.int .i64 f) ∧ W.cell? ⟨qs, 3, none⟩ = some (.int .i64 s) ∧ Below wr.heap.size wr W) => (CQ W).mono (fun e w' hh => And.intro hh.1 (Q _ _ h hh.2)))
          have HV := Lib.hid huv
          clear Q CP CQ hv hu huv
          have d0 := XF.out.at 0
          have d1 := XF.out.at 1
          have d2 := XF.out.at 2
          have d3 := XF.out.at 3
          simp only [List.getElem?_cons_zero, List.getElem?_cons_succ] at d0 d1 d2 d3
          have s0 := XS.out.at 0
          have s1 := XS.out.at 1
          have s2 := XS.out.at 2
          have s3 := XS.out.at 3
          simp only [List.getElem?_cons_zero, List.getElem?_cons_succ] at s0 s1 s2 s3
          have HS0 : wr.drew.cell? ⟨w.heap.size, 0, none⟩ = some (.int .i64 d) ∧ wr.drew.cell? ⟨w.heap.size, 1, none⟩ = some (.int .i64 l) ∧ wr.drew.cell? ⟨w.heap.size, 2, none⟩ = some (.int .i64 f) ∧ wr.drew.cell? ⟨w.heap.size, 3, none⟩ = some (.int .i64 s) ∧ wr.drew.cell? ⟨qs, 0, none⟩ = some (.int .i64 d) ∧ wr.drew.cell? ⟨qs, 1, none⟩ = some (.int .i64 0) ∧ wr.drew.cell? ⟨qs, 2, none⟩ = some (.int .i64 f) ∧ wr.drew.cell? ⟨qs, 3, none⟩ = some (.int .i64 s) ∧ Below wr.heap.size wr wr.drew := ⟨d0, d1, d2, d3, s0, s1, s2, s3, below_drewN' (Below.refl _ wr) 1⟩
          go_upto_region 12 with fail
          go_cut [31] (fun sl wx => sl = .bool (v != u) ∧ Below wr.heap.size wr wx)
          case first =>
            go_region_held3 (fun W => W.cell? ⟨w.heap.size, 0, none⟩ = some (.int .i64 d) ∧ W.cell? ⟨w.heap.size, 1, none⟩ = some (.int .i64 l) ∧ W.cell? ⟨w.heap.size, 2, none⟩ = some (.int .i64 f) ∧ W.cell? ⟨w.heap.size, 3, none⟩ = some (.int .i64 s) ∧ W.cell? ⟨qs, 0, none⟩ = some (.int .i64 d) ∧ W.cell? ⟨qs, 1, none⟩ = some (.int .i64 0) ∧ W.cell? ⟨qs, 2, none⟩ = some (.int .i64 f) ∧ W.cell? ⟨qs, 3, none⟩ = some (.int .i64 s) ∧ Below wr.heap.size wr W)
              (first | go_keep | exact HS0 | exact ⟨h0, h1, h2, h3, h4, h5, h6, h7, h8⟩ | exact ⟨k0, k1, k2, k3, k4, k5, k6, k7, k8⟩)
              (first
                | (go_at_call 61; (with_reducible refine (CP9.out _ ?_).mono ?_); (first | assumption | simp [*]); rintro e whh ⟨rfl, h0, h1, h2, h3, h4, h5, h6, h7, h8⟩)
                | (go_at_call 61; (with_reducible refine (CQ9.out _ ?_).mono ?_); (first | assumption | simp [*]); rintro e wkk ⟨rfl, k0, k1, k2, k3, k4, k5, k6, k7, k8⟩))
            all_goals
              rename_i hlast
              have K := hlast.2.2.2.2.2.2.2.2
              go_wp2_with fail
              go_meet
              case rel => exact ⟨rfl, K⟩
          case rest =>
          obtain ⟨rfl, hb2⟩ := hcut
          clear d0 d1 d2 d3 s0 s1 s2 s3 HS0 CP9 CQ9
          have HO2 := Lib.hid (HO.out.below hb2)
          have HX2 := Lib.hid (HX.out.below hb2)
          have HY2 := Lib.hid (HY.out.below hb2)
          have HB2 := Lib.hid (HB.out.trans (hb2.mono HB.out.size))
          have XF2 := Lib.hid (XF.out.below hb2)
          have XS2 := Lib.hid (XS.out.below hb2)
          clear hb2 HO HX HY HB XF XS
          have HO := HO2
          have HX := HX2
          have HY := HY2
          have HB := HB2
          have XF := XF2
          have XS := XS2
          clear HO2 HX2 HY2 HB2 XF2 XS2
          have c1 := HY.out.one.1
          cases hvp : (v != u)
          · have HP := Lib.hid (show (fun i j => (lnFirst d l i j != lnFirst d 0 i j)) x y = false by show (lnFirst d l x y != lnFirst d 0 x y) = false; rw [← HV.out]; exact hvp)
            go_wp2_with fail
            go_roundw
            case rel => exact ⟨x + 1, by omega, by go_num, by rw [stR_skip _ (by have h_ : (lnFirst d l x y != lnFirst d 0 x y) = false := HP.out; rw [h_]; simp)]; exact HO, HX, HY, HB, XF, XS⟩
            case measure => simp [intOf]; omega
          · have HP := Lib.hid (show (fun i j => (lnFirst d l i j != lnFirst d 0 i j)) x y = true by show (lnFirst d l x y != lnFirst d 0 x y) = true; rw [← HV.out]; exact hvp)
            go_wp2_with fail
            refine (l9Add_any _ w.heap.size g 24 x y _ _ HO.out hlx hlt (stR_at (fun i j => (lnFirst d l i j != lnFirst d 0 i j)) x hlt) (rowN_ltk _ hx)).mono ?_
            rintro e w3 ⟨rfl, ho3, hg3⟩
            have HX3 := Lib.hid (HX.out.kept hg3 (by simp; omega))
            have HY3 := Lib.hid (HY.out.kept hg3 (by simp; omega))
            have XF3 := Lib.hid (XF.out.kept hg3 (by simp; omega))
            have XS3 := Lib.hid (XS.out.kept hg3 (by simp; omega))
            have HB3 := Lib.hid (HB.out.grown hg3 HB.out.size (fun q hq => by cases hq; omega))
            have hstep : (if shB x y = true then (stR (fun i j => (lnFirst d l i j != lnFirst d 0 i j)) y x).set y ((rowN (fun i => shB i y && (fun i j => (lnFirst d l i j != lnFirst d 0 i j)) i y) x ||| 2 ^ x : Nat) : Int) else stR (fun i j => (lnFirst d l i j != lnFirst d 0 i j)) y x) = stR (fun i j => (lnFirst d l i j != lnFirst d 0 i j)) y (x + 1) := by
              cases h1 : shB x y
              · exact (stR_skip _ (by rw [h1]; rfl)).symm
              · rw [if_pos rfl, rowN_or]; exact stR_set _ hlt (by rw [h1]; first | rfl | exact HP.out)
            rw [hstep] at ho3
            have HO3 := Lib.hid ho3
            clear ho3 hg3 HO HX HY HB c1 hstep
            go_wp2_with fail
            go_roundw
            case rel => exact ⟨x + 1, by omega, by go_num, HO3, HX3, HY3, HB3, XF3, XS3⟩
            case measure => simp [intOf]; omega
        · have elx : decide ((x : Int) < 20) = false := decide_eq_false (by omega)
          obtain rfl : x = 20 := by omega
          rw [stR_next] at HO
          go_wp2_with fail
          go_roundw
          case rel => exact ⟨y + 1, by omega, by go_num, HO, HX, HY, HB, XF, XS⟩
          case measure => simp [intOf]; omega
    · have ely : decide ((y : Int) < 24) = false := decide_eq_false (by omega)
      obtain rfl : y = 24 := by omega
      rw [stR_all] at HO
      have c1 := HY.out.one.1
      obtain ⟨c0, f0⟩ := HX.out.one
      have hf0 := f0 0
      have X9 := HX.out.set 0 (.slice (some ⟨g, 0, none⟩) 24 24)
      obtain ⟨z0, _⟩ := X9.one
      have HG := grownBy_set wr (w.heap.size + 1) 0 (.slice (some ⟨g, 0, none⟩) 24 24)
      have HO9 := Lib.hid (OwnI.kept HO.out HG (by right; first | (simp [Value.ownBlock]; done) | (simp [Value.ownBlock]; omega)))
      have HB9 := Lib.hid (HB.out.grown HG HB.out.size (fun q hq => by cases hq; omega))
      clear X9 HG HO HX HB HY f0
      go_wp2_with fail
      exact bodyPost_ret (v := .tuple #[.agg #[.slice (some ⟨g, 0, none⟩) 24 24], .bool true]) (by simp [results, Tryd.results36, go_sem, z0]) rfl ⟨_, _, rfl, HO9.out, HB9.out⟩
theorem swung_spec_no (d l f s : Int) (w : World) (h : ¬ FOk d l f s) : Calls Tryd.prog 36 #[.agg #[.int .i64 d, .int .i64 l, .int .i64 f, .int .i64 s]] w (AnsRB w [] 0 false) := by
  have XF0 := (BoxF.new w [.int .i64 d, .int .i64 l, .int .i64 f, .int .i64 s] 30).alloc (.cells #[.slice none 0 0] 35 (0, 0))
  have X00 := BoxF.new (w.alloc (.cells #[.int .i64 d, .int .i64 l, .int .i64 f, .int .i64 s] 30 (0, 0))) [.slice none 0 0] 35
  have hB0 := ((Below.refl w.heap.size w).alloc (Nat.le_refl _) (.cells #[.int .i64 d, .int .i64 l, .int .i64 f, .int .i64 s] 30 (0, 0))).alloc (by simp) (.cells #[.slice none 0 0] 35 (0, 0))
  simp only [World.size_alloc] at X00
  have d0 := XF0.at 0
  have d1 := XF0.at 1
  have d2 := XF0.at 2
  have d3 := XF0.at 3
  simp only [List.getElem?_cons_zero, List.getElem?_cons_succ] at d0 d1 d2 d3
  have XF0 := Lib.hid XF0
  have X00 := Lib.hid X00
  have hB0 := Lib.hid hB0
  have CF := Lib.hid (fun W => l3Good_dec d l f s W false (decide_eq_false h))
  clear h
  go_enter Tryd.func36, Tryd.ntmps36
  go_wp2_with fail
  refine (CF.out _).mono ?_
  rintro e w0_ ⟨rfl, hb0⟩
  have hs0 := hb0.size
  simp only [World.size_alloc] at hs0
  have XF := Lib.hid (XF0.out.below hb0)
  have X0 := Lib.hid (X00.out.below hb0)
  have HB0 := Lib.hid (hB0.out.trans (hb0.mono hB0.out.size))
  clear hb0 XF0 X00 hB0
  clear d0 d1 d2 d3
  obtain ⟨c0, f0⟩ := X0.out.one
  have hf0 := f0 0
  have HBN := HB0.out.setCell (p := ⟨w.heap.size + 1, 0, none⟩) (by show w.heap.size ≤ w.heap.size + 1; omega) (.slice none 0 0)
  have Z9 := (X0.out.set 0 (.slice none 0 0)).one.1
  go_wp2_with fail
  exact bodyPost_ret (v := .tuple #[.agg #[.slice none 0 0], .bool false]) (by simp [results, Tryd.results36, go_sem, Z9]) rfl ⟨_, _, rfl, ownI_nil _ _, HBN⟩
end Go.Proofs.YtkhpgggaaldhhaaDoor
