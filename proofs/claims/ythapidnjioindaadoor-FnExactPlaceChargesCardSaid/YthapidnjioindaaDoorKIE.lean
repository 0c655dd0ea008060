/- Several small texts in one: C9C, C9G. -/
import Derived.Test.YthapidnjioindaaDoorKIC
import Derived.Test.YthapidnjioindaaDoorShelf
import Derived.Deep.AppendLies
import Derived.Test.YthapidnjioindaaDoorKD
import Derived.Test.YthapidnjioindaaDoorKID
namespace Go.Proofs.YthapidnjioindaaDoor
open Go.RowKit

/-- A row of the combination. -/
def combZ (how x y : Int) : Int := if how = 1 then bits .or .i64 x y else if how = 2 then bits .and .i64 x y else bits .andNot .i64 x y
def stG (f g : Nat → Int) (y : Nat) : List Int := (List.range 24).map (fun j => if j < y then f j else g j)
theorem stG_len (f g : Nat → Int) (y : Nat) : (stG f g y).length = 24 := by simp [stG]
theorem stG_at (f g : Nat → Int) {y : Nat} (hy : y < 24) : (stG f g y)[y]? = some (g y) := by
  unfold stG
  rw [List.getElem?_map, List.getElem?_range hy]; simp
theorem stG_set (f g : Nat → Int) {y : Nat} (hy : y < 24) : (stG f g y).set y (f y) = stG f g (y + 1) := by
  apply List.ext_getElem?
  intro j
  rw [List.getElem?_set]
  unfold stG
  by_cases hj : y = j
  · subst hj
    simp only [List.length_map, List.length_range, hy, if_pos]
    rw [List.getElem?_map, List.getElem?_range hy]
    simp
  · rw [if_neg hj, List.getElem?_map, List.getElem?_map]
    rcases Nat.lt_or_ge j 24 with h24 | h24
    · rw [List.getElem?_range h24]
      have e : (j < y + 1) = (j < y) := by apply propext; omega
      simp [e]
    · rw [List.getElem?_eq_none (by simpa using h24)]; rfl
theorem stG_zero (f : Nat → Int) (A : List Int) (h : A.length = 24) : stG f (fun j => A.getD j 0) 0 = A := by
  apply List.ext_getElem?
  intro j
  unfold stG
  rcases Nat.lt_or_ge j 24 with h24 | h24
  · rw [List.getElem?_map, List.getElem?_range h24]
    simp [List.getD, List.getElem?_eq_getElem (show j < A.length by omega)]
  · rw [List.getElem?_eq_none (by simpa using h24), List.getElem?_eq_none (by omega)]
theorem stG_none (f : Nat → Int) : stG f (fun _ => 0) 0 = List.replicate 24 0 := by
  unfold stG
  apply List.eq_replicate_iff.2
  refine ⟨by simp, fun b hb => ?_⟩
  obtain ⟨j, _, rfl⟩ := List.mem_map.1 hb
  simp
/-- The rows of the combination. -/
def combL (how : Int) (A B : List Int) : List Int := (List.range 24).map (fun y => combZ how (A.getD y 0) (B.getD y 0))
theorem stG_all (how : Int) (A B : List Int) (g : Nat → Int) : stG (fun y => combZ how (A.getD y 0) (B.getD y 0)) g 24 = combL how A B := by
  unfold stG combL
  apply List.map_congr_left
  intro j hj
  rw [List.mem_range] at hj
  rw [if_pos hj]
theorem clone24 (X : List Int) (h24 : X.length = 24) (a : Option Addr) (c : Nat) (w : World) (h : RdI w a 24 X) :
    Calls Tryd.prog 52 #[.slice a 24 c] w fun e w' => ∃ g cap : Nat, e = .returned (.slice (some ⟨g, 0, none⟩) 24 cap) ∧ OwnI w' w.heap.size (some ⟨g, 0, none⟩) 24 cap X ∧ Below w.heap.size w w' := by
  obtain ⟨b, o, rfl, hlt, hc⟩ := h.2 (by omega)
  refine (Tryd.slices_Clone_int b o 24 c X w (by omega) (by omega) (fun j hj => hc j (by omega))).mono ?_
  rintro e w' ⟨v', rfl, ho, _, hb⟩
  rw [List.take_of_length_le (by omega)] at ho
  obtain ⟨g, cap, rfl, _⟩ := World.ownsRow.form ho (by omega)
  exact ⟨_, _, rfl, ho, hb⟩

set_option maxRecDepth 100000 in
set_option maxHeartbeats 4000000 in
theorem comb_spec_no (A B : List Int) (how : Int) (n1 n2 c1 c2 : Nat) (a1 a2 : Option Addr) (w : World) (h1 : RdI w a1 n1 A) (h2 : RdI w a2 n2 B) (hn1 : n1 ≤ 1048577) (hn2 : n2 ≤ 1048577) (hr : ¬ (goodR A = true ∧ goodR B = true ∧ (1 ≤ how ∧ how ≤ 3))) :
    Calls Tryd.prog 38 #[.agg #[.slice a1 n1 c1], .agg #[.slice a2 n2 c2], .int .i64 how] w (AnsRB w [] 0 false) := by
  have XA := (BoxF.new w [.slice a1 n1 c1] 26).alloc (.cells #[.slice a2 n2 c2] 26 (0, 0)) |>.alloc (.cells #[.slice none 0 0] 26 (0, 0))
  have XB := (BoxF.new (w.alloc (.cells #[.slice a1 n1 c1] 26 (0, 0))) [.slice a2 n2 c2] 26).alloc (.cells #[.slice none 0 0] 26 (0, 0))
  have XR := BoxF.new ((w.alloc (.cells #[.slice a1 n1 c1] 26 (0, 0))).alloc (.cells #[.slice a2 n2 c2] 26 (0, 0))) [.slice none 0 0] 26
  have hb : Below w.heap.size w (((w.alloc (.cells #[.slice a1 n1 c1] 26 (0, 0))).alloc (.cells #[.slice a2 n2 c2] 26 (0, 0))).alloc (.cells #[.slice none 0 0] 26 (0, 0))) := (((Below.refl _ w).alloc (Nat.le_refl _) _).alloc (by simp) _).alloc (by simp; omega) _
  simp only [World.size_alloc] at XB XR
  have c_1 := XA.one.1
  have c_2 := XB.one.1
  have CA := Lib.hid (fun W (h : Below w.heap.size w W) => good_spec A n1 a1 c1 W (h1.below h) hn1)
  have CB := Lib.hid (fun W (h : Below w.heap.size w W) => good_spec B n2 a2 c2 W (h2.below h) hn2)
  have HA := Lib.hid XA
  have HBx := Lib.hid XB
  have HR := Lib.hid XR
  have HB := Lib.hid hb
  have HRW := Lib.hid h2
  clear h1 h2 hb XA XB XR
  cases hga : goodR A
  · rw [hga] at CA
    clear hr hga
    go_enter Tryd.func38, Tryd.ntmps38
    go_wp2_with fail
    refine (CA.out _ HB.out).mono ?_
    rintro e w1 ⟨rfl, hb1⟩
    have HB1 := Lib.hid (HB.out.trans (hb1.mono HB.out.size))
    have XR1 := HR.out.below hb1
    obtain ⟨c_0, f_0⟩ := XR1.one
    have f0 := f_0 0
    have XR9 := XR1.set 0 (.slice none 0 0)
    have z0 := XR9.one.1
    have HG := grownBy_set w1 (w.heap.size + 1 + 1) 0 (.slice none 0 0)
    have HB9 := Lib.hid (HB1.out.grown HG HB1.out.size (fun q hq => by cases hq; omega))
    clear hb1 c_1 c_2 XR1 XR9 HG f_0 HB1
    go_wp2_with fail
    exact bodyPost_ret (v := .tuple #[.agg #[.slice none 0 0], .bool false]) (by simp [results, Tryd.results38, go_sem, z0]) rfl ⟨_, _, rfl, ownI_nil _ _, HB9.out⟩
  · cases hgb : goodR B
    · rw [hga] at CA
      rw [hgb] at CB
      clear hr hga hgb
      go_enter Tryd.func38, Tryd.ntmps38
      go_wp2_with fail
      refine (CA.out _ HB.out).mono ?_
      rintro e w1 ⟨rfl, hb1⟩
      have HB1 := Lib.hid (HB.out.trans (hb1.mono HB.out.size))
      have HBx1 := Lib.hid (HBx.out.below hb1)
      have HR1 := Lib.hid (HR.out.below hb1)
      clear hb1 c_1 c_2
      have c_2 := HBx1.out.one.1
      go_wp2_with fail
      refine (CB.out _ HB1.out).mono ?_
      rintro e w2 ⟨rfl, hb2⟩
      have HB2 := Lib.hid (HB1.out.trans (hb2.mono HB1.out.size))
      have XR2 := HR1.out.below hb2
      obtain ⟨c_0, f_0⟩ := XR2.one
      have f0 := f_0 0
      have XR9 := XR2.set 0 (.slice none 0 0)
      have z0 := XR9.one.1
      have HG := grownBy_set w2 (w.heap.size + 1 + 1) 0 (.slice none 0 0)
      have HB9 := Lib.hid (HB2.out.grown HG HB2.out.size (fun q hq => by cases hq; omega))
      clear hb2 c_2 XR2 XR9 HG f_0 HB2
      go_wp2_with fail
      exact bodyPost_ret (v := .tuple #[.agg #[.slice none 0 0], .bool false]) (by simp [results, Tryd.results38, go_sem, z0]) rfl ⟨_, _, rfl, ownI_nil _ _, HB9.out⟩
    · have hh : ¬ (1 ≤ how ∧ how ≤ 3) := fun q => hr ⟨hga, hgb, q⟩
      rw [hga] at CA
      rw [hgb] at CB
      have CH := Lib.hid (fun W => in_any how 1 3 W false (decide_eq_false hh))
      clear hr hga hgb
      go_enter Tryd.func38, Tryd.ntmps38
      go_wp2_with fail
      refine (CA.out _ HB.out).mono ?_
      rintro e w1 ⟨rfl, hb1⟩
      have HB1 := Lib.hid (HB.out.trans (hb1.mono HB.out.size))
      have HA1 := Lib.hid (HA.out.below hb1)
      have HBx1 := Lib.hid (HBx.out.below hb1)
      have HR1 := Lib.hid (HR.out.below hb1)
      clear hb1 c_1 c_2 HA HBx HR HB
      have c_2 := HBx1.out.one.1
      go_wp2_with fail
      refine (CB.out _ HB1.out).mono ?_
      rintro e w2 ⟨rfl, hb2⟩
      have HB2 := Lib.hid (HB1.out.trans (hb2.mono HB1.out.size))
      have HA2 := Lib.hid (HA1.out.below hb2)
      have HBx2 := Lib.hid (HBx1.out.below hb2)
      have HR2 := Lib.hid (HR1.out.below hb2)
      clear hb2 c_2 HA1 HBx1 HR1 HB1
      go_wp2_with fail
      refine (CH.out _).mono ?_
      rintro e w3 ⟨rfl, rfl⟩
      have XR2 := HR2.out
      obtain ⟨c_0, f_0⟩ := XR2.one
      have f0 := f_0 0
      have XR9 := XR2.set 0 (.slice none 0 0)
      have z0 := XR9.one.1
      have HG := grownBy_set w2 (w.heap.size + 1 + 1) 0 (.slice none 0 0)
      have HB9 := Lib.hid (HB2.out.grown HG HB2.out.size (fun q hq => by cases hq; omega))
      clear XR2 XR9 HG f_0 HB2
      go_wp2_with fail
      exact bodyPost_ret (v := .tuple #[.agg #[.slice none 0 0], .bool false]) (by simp [results, Tryd.results38, go_sem, z0]) rfl ⟨_, _, rfl, ownI_nil _ _, HB9.out⟩
set_option maxRecDepth 100000 in
set_option maxHeartbeats 4000000 in
theorem comb_impl_no (A B : List Int) (how : Int) (n1 n2 c1 c2 : Nat) (a1 a2 : Option Addr) (w : World) (h1 : RdI w a1 n1 A) (h2 : RdI w a2 n2 B) (hw1 : WfI A) (hw2 : WfI B) (hn1 : n1 ≤ 1048577) (hn2 : n2 ≤ 1048577) (hr : ¬ (goodR A = true ∧ goodR B = true ∧ (1 ≤ how ∧ how ≤ 3))) :
    Calls Tryd.prog 37 #[.agg #[.slice a1 n1 c1], .agg #[.slice a2 n2 c2], .int .i64 how] w (AnsRB w [] 0 false) := by
  have XA := (BoxF.new w [.slice a1 n1 c1] 26).alloc (.cells #[.slice a2 n2 c2] 26 (0, 0)) |>.alloc (.cells #[.slice none 0 0] 26 (0, 0))
  have XB := (BoxF.new (w.alloc (.cells #[.slice a1 n1 c1] 26 (0, 0))) [.slice a2 n2 c2] 26).alloc (.cells #[.slice none 0 0] 26 (0, 0))
  have XR := BoxF.new ((w.alloc (.cells #[.slice a1 n1 c1] 26 (0, 0))).alloc (.cells #[.slice a2 n2 c2] 26 (0, 0))) [.slice none 0 0] 26
  have hb : Below w.heap.size w (((w.alloc (.cells #[.slice a1 n1 c1] 26 (0, 0))).alloc (.cells #[.slice a2 n2 c2] 26 (0, 0))).alloc (.cells #[.slice none 0 0] 26 (0, 0))) := (((Below.refl _ w).alloc (Nat.le_refl _) _).alloc (by simp) _).alloc (by simp; omega) _
  simp only [World.size_alloc] at XB XR
  have c_1 := XA.one.1
  have c_2 := XB.one.1
  have CA := Lib.hid (fun W (h : Below w.heap.size w W) => valid_impl A n1 a1 c1 W (h1.below h) hw1 hn1)
  have CB := Lib.hid (fun W (h : Below w.heap.size w W) => valid_impl B n2 a2 c2 W (h2.below h) hw2 hn2)
  have HA := Lib.hid XA
  have HBx := Lib.hid XB
  have HR := Lib.hid XR
  have HB := Lib.hid hb
  have HRW := Lib.hid h2
  have HRA := Lib.hid h1
  clear h1 h2 hw1 hw2 hb XA XB XR
  cases hga : goodR A
  · rw [hga] at CA
    clear hr hga
    go_enter Tryd.func37, Tryd.ntmps37
    go_wp2_with fail
    refine (CA.out _ HB.out).mono ?_
    rintro e w1 ⟨rfl, hb1⟩
    have HB1 := Lib.hid (HB.out.trans (hb1.mono HB.out.size))
    have XR1 := HR.out.below hb1
    obtain ⟨c_0, f_0⟩ := XR1.one
    have f0 := f_0 0
    have XR9 := XR1.set 0 (.slice none 0 0)
    have z0 := XR9.one.1
    have HG := grownBy_set w1 (w.heap.size + 1 + 1) 0 (.slice none 0 0)
    have HB9 := Lib.hid (HB1.out.grown HG HB1.out.size (fun q hq => by cases hq; omega))
    clear hb1 c_1 c_2 XR1 XR9 HG f_0 HB1
    go_wp2_with fail
    exact bodyPost_ret (v := .tuple #[.agg #[.slice none 0 0], .bool false]) (by simp [results, Tryd.results37, go_sem, z0]) rfl ⟨_, _, rfl, ownI_nil _ _, HB9.out⟩
  · cases hgb : goodR B
    · rw [hga] at CA
      rw [hgb] at CB
      clear hr hga hgb
      go_enter Tryd.func37, Tryd.ntmps37
      go_wp2_with fail
      refine (CA.out _ HB.out).mono ?_
      rintro e w1 ⟨rfl, hb1⟩
      have HB1 := Lib.hid (HB.out.trans (hb1.mono HB.out.size))
      have HBx1 := Lib.hid (HBx.out.below hb1)
      have HR1 := Lib.hid (HR.out.below hb1)
      clear hb1 c_1 c_2
      have c_2 := HBx1.out.one.1
      go_wp2_with fail
      refine (CB.out _ HB1.out).mono ?_
      rintro e w2 ⟨rfl, hb2⟩
      have HB2 := Lib.hid (HB1.out.trans (hb2.mono HB1.out.size))
      have XR2 := HR1.out.below hb2
      obtain ⟨c_0, f_0⟩ := XR2.one
      have f0 := f_0 0
      have XR9 := XR2.set 0 (.slice none 0 0)
      have z0 := XR9.one.1
      have HG := grownBy_set w2 (w.heap.size + 1 + 1) 0 (.slice none 0 0)
      have HB9 := Lib.hid (HB2.out.grown HG HB2.out.size (fun q hq => by cases hq; omega))
      clear hb2 c_2 XR2 XR9 HG f_0 HB2
      go_wp2_with fail
      exact bodyPost_ret (v := .tuple #[.agg #[.slice none 0 0], .bool false]) (by simp [results, Tryd.results37, go_sem, z0]) rfl ⟨_, _, rfl, ownI_nil _ _, HB9.out⟩
    · have hh : ¬ (1 ≤ how ∧ how ≤ 3) := fun q => hr ⟨hga, hgb, q⟩
      rw [hga] at CA
      rw [hgb] at CB
      have h24a : n1 = 24 := by rw [← HRA.out.1]; exact goodR_len hga
      have h24b : n2 = 24 := by rw [← HRW.out.1]; exact goodR_len hgb
      have HLA := Lib.hid (goodR_len hga)
      subst h24a
      subst h24b
      have k1 : (how == 1) = false := by rw [beq_eq_false_iff_ne]; omega
      have k2 : (how == 2) = false := by rw [beq_eq_false_iff_ne]; omega
      have k3 : (how == 3) = false := by rw [beq_eq_false_iff_ne]; omega
      clear hr hga hgb
      go_enter Tryd.func37, Tryd.ntmps37
      go_wp2_with fail
      refine (CA.out _ HB.out).mono ?_
      rintro e w1 ⟨rfl, hb1⟩
      have HB1 := Lib.hid (HB.out.trans (hb1.mono HB.out.size))
      have HA1 := Lib.hid (HA.out.below hb1)
      have HBx1 := Lib.hid (HBx.out.below hb1)
      have HR1 := Lib.hid (HR.out.below hb1)
      clear hb1 c_1 c_2 HA HBx HR HB
      have c_2 := HBx1.out.one.1
      go_wp2_with fail
      refine (CB.out _ HB1.out).mono ?_
      rintro e w2 ⟨rfl, hb2⟩
      have HB2 := Lib.hid (HB1.out.trans (hb2.mono HB1.out.size))
      have HA2 := Lib.hid (HA1.out.below hb2)
      have HBx2 := Lib.hid (HBx1.out.below hb2)
      have HR2 := Lib.hid (HR1.out.below hb2)
      clear hb2 c_2 HA1 HBx1 HR1 HB1
      have c_1 := HA2.out.one.1
      have HCL := Lib.hid (fun W (h : Below w.heap.size w W) => clone24 A HLA.out a1 c1 W (HRA.out.below h))
      go_wp2_with fail
      refine (HCL.out _ HB2.out).mono ?_
      rintro e w3 ⟨g, cap, rfl, ho3, hb3⟩
      have hgg := World.ownsRow.lt ho3 g rfl
      have hz2 := HB2.out.size
      have HO3 := Lib.hid (OwnI.low ho3 (B' := w.heap.size) (by omega))
      have HB3 := Lib.hid (HB2.out.trans (hb3.mono HB2.out.size))
      have HA3 := Lib.hid (HA2.out.below hb3)
      have HBx3 := Lib.hid (HBx2.out.below hb3)
      have HR3 := Lib.hid (HR2.out.below hb3)
      have hz3 := HR2.out.lt
      clear ho3 hb3 c_1 HA2 HBx2 HR2 HB2
      have c_2 := HBx3.out.one.1
      go_wp2_with fail
      refine wp_loop_rounds 1 ?_
      rw [rounds_succ]
      obtain ⟨b2, o2, rfl, _, hc2⟩ := (HRW.out.below HB3.out).2 (by omega)
      have x2 := hc2 0 (by omega)
      rw [Nat.add_zero] at x2
      have XR2 := HR3.out
      obtain ⟨c_0, f_0⟩ := XR2.one
      have f0 := f_0 0
      have XR9 := XR2.set 0 (.slice none 0 0)
      have z0 := XR9.one.1
      have HG := grownBy_set w3 (w.heap.size + 1 + 1) 0 (.slice none 0 0)
      have HB9 := Lib.hid (HB3.out.grown HG HB3.out.size (fun q hq => by cases hq; omega))
      clear XR2 XR9 HG f_0 HB3 hc2
      go_wp2_with fail
      exact bodyPost_ret (v := .tuple #[.agg #[.slice none 0 0], .bool false]) (by simp [results, Tryd.results37, go_sem, z0]) rfl ⟨_, _, rfl, ownI_nil _ _, HB9.out⟩

set_option maxRecDepth 100000 in
set_option maxHeartbeats 8000000 in
theorem comb_impl (A B : List Int) (how : Int) (c1 c2 : Nat) (a1 a2 : Option Addr) (w : World) (h1 : RdI w a1 24 A) (h2 : RdI w a2 24 B) (hw1 : WfI A) (hw2 : WfI B) (hga : goodR A = true) (hgb : goodR B = true) (hh0 : 1 ≤ how) (hh1 : how ≤ 3) :
    Calls Tryd.prog 37 #[.agg #[.slice a1 24 c1], .agg #[.slice a2 24 c2], .int .i64 how] w (AnsRB w (combL how A B) 24 true) := by
  have XA := (BoxF.new w [.slice a1 24 c1] 26).alloc (.cells #[.slice a2 24 c2] 26 (0, 0)) |>.alloc (.cells #[.slice none 0 0] 26 (0, 0))
  have XB := (BoxF.new (w.alloc (.cells #[.slice a1 24 c1] 26 (0, 0))) [.slice a2 24 c2] 26).alloc (.cells #[.slice none 0 0] 26 (0, 0))
  have XR := BoxF.new ((w.alloc (.cells #[.slice a1 24 c1] 26 (0, 0))).alloc (.cells #[.slice a2 24 c2] 26 (0, 0))) [.slice none 0 0] 26
  have hb : Below w.heap.size w (((w.alloc (.cells #[.slice a1 24 c1] 26 (0, 0))).alloc (.cells #[.slice a2 24 c2] 26 (0, 0))).alloc (.cells #[.slice none 0 0] 26 (0, 0))) := (((Below.refl _ w).alloc (Nat.le_refl _) _).alloc (by simp) _).alloc (by simp; omega) _
  simp only [World.size_alloc] at XB XR
  have c_1 := XA.one.1
  have c_2 := XB.one.1
  have CA := Lib.hid (fun W (h : Below w.heap.size w W) => valid_impl A 24 a1 c1 W (h1.below h) hw1 (by omega))
  have CB := Lib.hid (fun W (h : Below w.heap.size w W) => valid_impl B 24 a2 c2 W (h2.below h) hw2 (by omega))
  rw [hga] at CA
  rw [hgb] at CB
  have HA := Lib.hid XA
  have HBx := Lib.hid XB
  have HR := Lib.hid XR
  have HB := Lib.hid hb
  have HRA := Lib.hid h1
  have HRW := Lib.hid h2
  have HLA := Lib.hid (goodR_len hga)
  clear h1 h2 hga hgb hb XA XB XR hw1 hw2
  go_enter Tryd.func37, Tryd.ntmps37
  go_wp2_with fail
  refine (CA.out _ HB.out).mono ?_
  rintro e w1 ⟨rfl, hb1⟩
  have HB1 := Lib.hid (HB.out.trans (hb1.mono HB.out.size))
  have HA1 := Lib.hid (HA.out.below hb1)
  have HBx1 := Lib.hid (HBx.out.below hb1)
  have HR1 := Lib.hid (HR.out.below hb1)
  clear hb1 c_1 c_2 HA HBx HR HB
  have c_2 := HBx1.out.one.1
  go_wp2_with fail
  refine (CB.out _ HB1.out).mono ?_
  rintro e w2 ⟨rfl, hb2⟩
  have HB2 := Lib.hid (HB1.out.trans (hb2.mono HB1.out.size))
  have HA2 := Lib.hid (HA1.out.below hb2)
  have HBx2 := Lib.hid (HBx1.out.below hb2)
  have HR2 := Lib.hid (HR1.out.below hb2)
  clear hb2 c_2 HA1 HBx1 HR1 HB1 CA CB
  have c_1 := HA2.out.one.1
  have HCL := Lib.hid (fun W (h : Below w.heap.size w W) => clone24 A HLA.out a1 c1 W (HRA.out.below h))
  go_wp2_with fail
  refine (HCL.out _ HB2.out).mono ?_
  rintro e w3 ⟨g, cap, rfl, ho3, hb3⟩
  have hgg := World.ownsRow.lt ho3 g rfl
  have hz2 := HB2.out.size
  have HO3 := Lib.hid (OwnI.low ho3 (B' := w.heap.size) (by omega))
  have HB3 := Lib.hid (HB2.out.trans (hb3.mono HB2.out.size))
  have HA3 := Lib.hid (HA2.out.below hb3)
  have HBx3 := Lib.hid (HBx2.out.below hb3)
  have HR3 := Lib.hid (HR2.out.below hb3)
  have hz3 := HR2.out.lt
  clear ho3 hb3 c_1 HA2 HBx2 HR2 HB2
  have c_2 := HBx3.out.one.1
  have hsg : OwnI w3 w.heap.size (some ⟨g, 0, none⟩) 24 cap (stG (fun y => combZ how (A.getD y 0) (B.getD y 0)) (fun j => A.getD j 0) 0) := by rw [stG_zero _ A HLA.out]; exact HO3.out
  have HO4 := Lib.hid hsg
  clear hsg HO3 HCL
  go_wp2_with fail
  clear c_2
  go_loopw [26] (fun i wr => ∃ y : Nat, y ≤ 24 ∧ i = .int .i64 (y : Int) ∧ Hid (OwnI wr w.heap.size (some ⟨g, 0, none⟩) 24 cap (stG (fun y => combZ how (A.getD y 0) (B.getD y 0)) (fun j => A.getD j 0) y)) ∧ Hid (BoxF wr (w.heap.size + 1 + 1) [.slice none 0 0] 26) ∧ Hid (Below w.heap.size w wr)) (fun i _ => 24 - (intOf i).toNat)
  case atStart => exact ⟨0, by omega, rfl, HO4, HR3, HB3⟩
  case round =>
    clear HO4 HR3 HB3 HA3 HBx3
    obtain ⟨y, hy, rfl, HO, HR, HB⟩ := hrel
    by_cases hlt : y < 24
    · have ely : decide ((y : Int) < 24) = true := decide_eq_true (by omega)
      obtain ⟨b2, o2, rfl, _, hc2⟩ := (HRW.out.below HB.out).2 (by omega)
      have x2 := hc2 y hlt
      have hc1 := (HO.out.cellAt y hlt)
      rw [List.getElem?_map, stG_at _ _ hlt] at hc1
      simp only [Option.map_some] at hc1
      have hf1 := HO.out.frozenAt y
      have HSET := Lib.hid (stG_set (fun y => combZ how (A.getD y 0) (B.getD y 0)) (fun j => A.getD j 0) hlt)
      have HST := Lib.hid (HO.out.stored y (.int .i64 (combZ how (A.getD y 0) (B.getD y 0))))
      have HO5 := Lib.hid (show OwnI (wr.setCell ⟨g, y, none⟩ (.int .i64 (combZ how (A.getD y 0) (B.getD y 0)))) w.heap.size (some ⟨g, 0, none⟩) 24 cap (stG (fun y => combZ how (A.getD y 0) (B.getD y 0)) (fun j => A.getD j 0) (y + 1)) by
        rw [← HSET.out]; unfold OwnI; rw [List.map_set]; exact HST.out.1)
      have HR5 := Lib.hid (HR.out.kept HST.out.2 (by simp; omega))
      have HB5 := Lib.hid (HB.out.grown HST.out.2 HB.out.size (fun q hq => by cases hq; omega))
      clear HST HSET hc2
      have hho : how = 1 ∨ how = 2 ∨ how = 3 := by omega
      clear HO HR HB
      rcases hho with rfl | rfl | rfl
      all_goals
        simp only [combZ] at HO5 HR5 HB5
        go_wp2_with fail
        go_roundw
        case rel => exact ⟨y + 1, by omega, by go_num, by simpa [combZ] using HO5, by simpa using HR5, by simpa using HB5⟩
        case measure => simp [intOf]; omega
    ·
      have ely : decide ((y : Int) < 24) = false := decide_eq_false (by omega)
      obtain rfl : y = 24 := by omega
      have hO := HO.out
      rw [stG_all] at hO
      obtain ⟨c_0, f_0⟩ := HR.out.one
      have f0 := f_0 0
      have XR9 := HR.out.set 0 (.slice (some ⟨g, 0, none⟩) 24 cap)
      have z0 := XR9.one.1
      have HG := grownBy_set wr (w.heap.size + 1 + 1) 0 (.slice (some ⟨g, 0, none⟩) 24 cap)
      have HO9 := Lib.hid (OwnI.kept hO HG (by right; simp [Value.ownBlock]; omega))
      have HB9 := Lib.hid (HB.out.grown HG HB.out.size (fun q hq => by cases hq; omega))
      try clear HRA HRW
      clear XR9 HG f_0 hO HO HR HB
      go_wp2_with fail
      exact bodyPost_ret (v := .tuple #[.agg #[.slice (some ⟨g, 0, none⟩) 24 cap], .bool true]) (by simp [results, Tryd.results37, go_sem, z0]) rfl ⟨_, _, rfl, HO9.out, HB9.out⟩
set_option maxRecDepth 100000 in
set_option maxHeartbeats 8000000 in
theorem comb_spec (A B : List Int) (how : Int) (c1 c2 : Nat) (a1 a2 : Option Addr) (w : World) (h1 : RdI w a1 24 A) (h2 : RdI w a2 24 B) (hga : goodR A = true) (hgb : goodR B = true) (hh0 : 1 ≤ how) (hh1 : how ≤ 3) :
    Calls Tryd.prog 38 #[.agg #[.slice a1 24 c1], .agg #[.slice a2 24 c2], .int .i64 how] w (AnsRB w (combL how A B) 24 true) := by
  have XA := (BoxF.new w [.slice a1 24 c1] 26).alloc (.cells #[.slice a2 24 c2] 26 (0, 0)) |>.alloc (.cells #[.slice none 0 0] 26 (0, 0))
  have XB := (BoxF.new (w.alloc (.cells #[.slice a1 24 c1] 26 (0, 0))) [.slice a2 24 c2] 26).alloc (.cells #[.slice none 0 0] 26 (0, 0))
  have XR := BoxF.new ((w.alloc (.cells #[.slice a1 24 c1] 26 (0, 0))).alloc (.cells #[.slice a2 24 c2] 26 (0, 0))) [.slice none 0 0] 26
  have hb : Below w.heap.size w (((w.alloc (.cells #[.slice a1 24 c1] 26 (0, 0))).alloc (.cells #[.slice a2 24 c2] 26 (0, 0))).alloc (.cells #[.slice none 0 0] 26 (0, 0))) := (((Below.refl _ w).alloc (Nat.le_refl _) _).alloc (by simp) _).alloc (by simp; omega) _
  simp only [World.size_alloc] at XB XR
  have c_1 := XA.one.1
  have c_2 := XB.one.1
  have CA := Lib.hid (fun W (h : Below w.heap.size w W) => good_spec A 24 a1 c1 W (h1.below h) (by omega))
  have CB := Lib.hid (fun W (h : Below w.heap.size w W) => good_spec B 24 a2 c2 W (h2.below h) (by omega))
  rw [hga] at CA
  rw [hgb] at CB
  have HA := Lib.hid XA
  have HBx := Lib.hid XB
  have HR := Lib.hid XR
  have HB := Lib.hid hb
  have HRA := Lib.hid h1
  have HRW := Lib.hid h2
  have HLA := Lib.hid (goodR_len hga)
  clear h1 h2 hga hgb hb XA XB XR
  go_enter Tryd.func38, Tryd.ntmps38
  go_wp2_with fail
  refine (CA.out _ HB.out).mono ?_
  rintro e w1 ⟨rfl, hb1⟩
  have HB1 := Lib.hid (HB.out.trans (hb1.mono HB.out.size))
  have HA1 := Lib.hid (HA.out.below hb1)
  have HBx1 := Lib.hid (HBx.out.below hb1)
  have HR1 := Lib.hid (HR.out.below hb1)
  clear hb1 c_1 c_2 HA HBx HR HB
  have c_2 := HBx1.out.one.1
  go_wp2_with fail
  refine (CB.out _ HB1.out).mono ?_
  rintro e w2 ⟨rfl, hb2⟩
  have HB2 := Lib.hid (HB1.out.trans (hb2.mono HB1.out.size))
  have HA2 := Lib.hid (HA1.out.below hb2)
  have HBx2 := Lib.hid (HBx1.out.below hb2)
  have HR2 := Lib.hid (HR1.out.below hb2)
  clear hb2 c_2 HA1 HBx1 HR1 HB1 CA CB
  have CH := Lib.hid (fun W => in_any how 1 3 W true (decide_eq_true ⟨hh0, hh1⟩))
  go_wp2_with fail
  refine (CH.out _).mono ?_
  rintro e w3 ⟨rfl, rfl⟩
  go_wp2_with fail
  refine (l9Empty_any _).mono ?_
  rintro e w3 ⟨g, rfl, ho3, hb3⟩
  have hgg := World.ownsRow.lt ho3 g rfl
  have hz2 := HB2.out.size
  obtain ⟨q1, hq1⟩ : ∃ q, w3.heap.size = q := ⟨_, rfl⟩
  have hq2 : ((Below.refl w3.heap.size w3).alloc (Nat.le_refl _) (.cells #[.slice (some ⟨g, 0, none⟩) 24 24] 26 (0, 0))).size = ((Below.refl w3.heap.size w3).alloc (Nat.le_refl _) (.cells #[.slice (some ⟨g, 0, none⟩) 24 24] 26 (0, 0))).size := rfl
  have hal := (Below.refl w3.heap.size w3).alloc (Nat.le_refl _) (.cells #[.slice (some ⟨g, 0, none⟩) 24 24] 26 (0, 0))
  have HO3 := Lib.hid (OwnI.below (OwnI.low ho3 (B' := w.heap.size) (by omega)) hal)
  have HB3 := HB2.out.trans (hb3.mono HB2.out.size)
  have HB4 := Lib.hid (HB3.alloc HB3.size (.cells #[.slice (some ⟨g, 0, none⟩) 24 24] 26 (0, 0)))
  have HA4 := Lib.hid ((HA2.out.below hb3).alloc (.cells #[.slice (some ⟨g, 0, none⟩) 24 24] 26 (0, 0)))
  have HBx4 := Lib.hid ((HBx2.out.below hb3).alloc (.cells #[.slice (some ⟨g, 0, none⟩) 24 24] 26 (0, 0)))
  have HR4 := Lib.hid ((HR2.out.below hb3).alloc (.cells #[.slice (some ⟨g, 0, none⟩) 24 24] 26 (0, 0)))
  have HY4 := Lib.hid (BoxF.new w3 [.slice (some ⟨g, 0, none⟩) 24 24] 26)
  have hz3 := (HR2.out.below hb3).lt
  have hz9 := HR2.out.lt
  rw [← stG_none (fun y => combZ how (A.getD y 0) (B.getD y 0))] at HO3
  rw [hq1] at HY4 hgg hz3
  clear ho3 hb3 HB3 HA2 HBx2 HR2 HB2 hal hq2
  go_wp2_with fail
  go_loopw [9] (fun i wr => ∃ y : Nat, y ≤ 24 ∧ i = .int .i64 (y : Int) ∧ Hid (OwnI wr w.heap.size (some ⟨g, 0, none⟩) 24 24 (stG (fun y => combZ how (A.getD y 0) (B.getD y 0)) (fun _ => 0) y)) ∧ Hid (BoxF wr w.heap.size [.slice a1 24 c1] 26) ∧ Hid (BoxF wr (w.heap.size + 1) [.slice a2 24 c2] 26) ∧ Hid (BoxF wr q1 [.slice (some ⟨g, 0, none⟩) 24 24] 26) ∧ Hid (BoxF wr (w.heap.size + 1 + 1) [.slice none 0 0] 26) ∧ Hid (Below w.heap.size w wr)) (fun i _ => 24 - (intOf i).toNat)
  case atStart => exact ⟨0, by omega, rfl, HO3, HA4, HBx4, HY4, HR4, HB4⟩
  case round =>
    clear HO3 HA4 HBx4 HY4 HR4 HB4
    obtain ⟨y, hy, rfl, HO, HA, HBx, HY, HR, HB⟩ := hrel
    by_cases hlt : y < 24
    · have ely : decide ((y : Int) < 24) = true := decide_eq_true (by omega)
      obtain ⟨b1, o1, rfl, _, hc1'⟩ := (HRA.out.below HB.out).2 (by omega)
      obtain ⟨b2, o2, rfl, _, hc2⟩ := (HRW.out.below HB.out).2 (by omega)
      have x1 := hc1' y hlt
      have x2 := hc2 y hlt
      have hc1 := (HO.out.cellAt y hlt)
      rw [List.getElem?_map, stG_at _ _ hlt] at hc1
      simp only [Option.map_some] at hc1
      have hf1 := HO.out.frozenAt y
      have k1 := HA.out.one.1
      have k2 := HBx.out.one.1
      have k3 := HY.out.one.1
      have HSET := Lib.hid (stG_set (fun y => combZ how (A.getD y 0) (B.getD y 0)) (fun _ => 0) hlt)
      have HST := Lib.hid (HO.out.stored y (.int .i64 (combZ how (A.getD y 0) (B.getD y 0))))
      have HO5 := Lib.hid (show OwnI (wr.setCell ⟨g, y, none⟩ (.int .i64 (combZ how (A.getD y 0) (B.getD y 0)))) w.heap.size (some ⟨g, 0, none⟩) 24 24 (stG (fun y => combZ how (A.getD y 0) (B.getD y 0)) (fun _ => 0) (y + 1)) by
        rw [← HSET.out]; unfold OwnI; rw [List.map_set]; exact HST.out.1)
      have HA5 := Lib.hid (HA.out.kept HST.out.2 (by simp; omega))
      have HBx5 := Lib.hid (HBx.out.kept HST.out.2 (by simp; omega))
      have HY5 := Lib.hid (HY.out.kept HST.out.2 (by simp; omega))
      have HR5 := Lib.hid (HR.out.kept HST.out.2 (by simp; omega))
      have HB5 := Lib.hid (HB.out.grown HST.out.2 HB.out.size (fun q hq => by cases hq; omega))
      clear HST HSET hc2 hc1'
      have hho : how = 1 ∨ how = 2 ∨ how = 3 := by omega
      clear HO HA HBx HY HR HB
      rcases hho with rfl | rfl | rfl
      all_goals
        go_wp2_with fail
        go_region
        go_wp2_with fail
        go_roundw
        case rel => exact ⟨y + 1, by omega, by go_num, Lib.hid (HO5.out.drewN 1), Lib.hid (HA5.out.drew 1), Lib.hid (HBx5.out.drew 1), Lib.hid (HY5.out.drew 1), Lib.hid (HR5.out.drew 1), Lib.hid (below_drewN' HB5.out 1)⟩
        case measure => simp [intOf]; omega
    ·
      have ely : decide ((y : Int) < 24) = false := decide_eq_false (by omega)
      obtain rfl : y = 24 := by omega
      have hO := HO.out
      rw [stG_all] at hO
      obtain ⟨c_0, f_0⟩ := HR.out.one
      have f0 := f_0 0
      have XR9 := HR.out.set 0 (.slice (some ⟨g, 0, none⟩) 24 24)
      have z0 := XR9.one.1
      have HG := grownBy_set wr (w.heap.size + 1 + 1) 0 (.slice (some ⟨g, 0, none⟩) 24 24)
      have HO9 := Lib.hid (OwnI.kept hO HG (by right; simp [Value.ownBlock]; omega))
      have HB9 := Lib.hid (HB.out.grown HG HB.out.size (fun q hq => by cases hq; omega))
      have k3 := HY.out.one.1
      clear XR9 HG f_0 hO HO HR HB
      go_wp2_with fail
      exact bodyPost_ret (v := .tuple #[.agg #[.slice (some ⟨g, 0, none⟩) 24 24], .bool true]) (by simp [results, Tryd.results38, go_sem, z0]) rfl ⟨_, _, rfl, HO9.out, HB9.out⟩
end Go.Proofs.YthapidnjioindaaDoor
namespace Go.Proofs.YthapidnjioindaaDoor
open Go.RowKit

theorem rdb_ofG {w : World} {b o n : Nat} {spot : Option Nat} {f : Nat → Int} (hc : ∀ k, k < n → w.cell? ((⟨b, o, spot⟩ : Addr).add k) = some (.int .u8 (f k))) (hf : ∀ k, k < n → IntKind.u8.min ≤ f k ∧ f k ≤ IntKind.u8.max) : RdB w w.heap.size (some ⟨b, o, spot⟩) n := by
  intro hn
  have h0 := hc 0 hn
  have hspot : spot = none := by simpa [Addr.add] using World.cell?_spot h0
  subst hspot
  have h1 : ∀ k, k < n → w.cell? ⟨b, o + k, none⟩ = some (.int .u8 (f k)) := fun k hk => by
    have h1 := hc k hk
    have e : (⟨b, o, none⟩ : Addr).add k = ⟨b, o + k, none⟩ := by unfold Addr.add; split <;> simp_all
    rw [e] at h1
    exact h1
  exact ⟨b, o, rfl, cellI_lt (h1 0 hn), fun k hk => ⟨f k, h1 k hk, (hf k hk).1, (hf k hk).2⟩⟩

theorem rBig_any (a : Option Addr) (n cap : Nat) (w : World) :
    Calls Tryd.prog 35 #[.slice a n cap] w fun e w' => e = .returned (.bool (decide ((65536 : Int) < (n : Int)))) ∧ w = w' := by
  go_enter Tryd.func35, Tryd.ntmps35
  go_wp2_with fail
  go_ret
  exact ⟨rfl, rfl⟩

set_option maxHeartbeats 1000000 in
theorem rInts_true (X : List Int) (n : Nat) (a1 a2 : Option Addr) (c1 c2 : Nat) (w : World) (h1 : RdI w a1 n X) (h2 : RdI w a2 n X) (hn : n ≤ 1048577) :
    Calls Tryd.prog 39 #[.slice a1 n c1, .slice a2 n c2] w fun e w' => e = .returned (.bool true) ∧ ∃ m, w' = w.drewN m := by
  rcases Nat.eq_zero_or_pos n with h0 | h0
  · subst h0
    clear h1 h2
    go_enter Tryd.func39, Tryd.ntmps39
    go_wp2
    refine wp_loop_rounds 1 ?_
    rw [rounds_succ]
    go_wp2
    go_ret
    exact ⟨rfl, 0, rfl⟩
  · obtain ⟨b1, o1, rfl, _, hc1⟩ := h1.2 h0
    obtain ⟨b2, o2, rfl, _, hc2⟩ := h2.2 h0
    have HL := Lib.hid h1.1
    clear h1 h2
    have H1 := Lib.hid hc1
    have H2 := Lib.hid hc2
    clear hc1 hc2
    go_enter Tryd.func39, Tryd.ntmps39
    go_wp2
    go_loopw [5] (fun i wr => ∃ k q : Nat, k ≤ n ∧ i = .int .i64 k ∧ wr = w.drewN q) (fun i _ => n - (intOf i).toNat)
    case atStart => exact ⟨0, 0, Nat.zero_le _, rfl, rfl⟩
    case round =>
      obtain ⟨k, q, hk, rfl, rfl⟩ := hrel
      by_cases hlt : k < n
      · obtain ⟨x, hx, _⟩ := atI_of_lt HL.out hlt
        have g1 := rdI_at H1.out hlt hx
        have g2 := rdI_at H2.out hlt hx
        clear hx
        go_wp2
        go_quiet (fail)
        go_wp2
        go_roundw
        case rel => exact ⟨k + 1, _, by omega, by go_num, rfl⟩
        case measure => simp [intOf]; omega
      · go_wp2
        go_ret
        exact ⟨rfl, q, rfl⟩
theorem rInts_b (X : List Int) (n : Nat) (a1 a2 : Option Addr) (c1 c2 : Nat) (w : World) (h1 : RdI w a1 n X) (h2 : RdI w a2 n X) (hn : n ≤ 1048577) :
    Calls Tryd.prog 39 #[.slice a1 n c1, .slice a2 n c2] w fun e w' => e = .returned (.bool true) ∧ Below w.heap.size w w' :=
  (rInts_true X n a1 a2 c1 c2 w h1 h2 hn).mono (fun e w' ⟨h1, q, h2⟩ => ⟨h1, by subst h2; exact below_drewN' (Below.refl _ _) q⟩)
/-! Regions out of tests are valid. -/
theorem regN_bit (P : Nat → Nat → Bool) (y x : Nat) : (regN P y).testBit x = (decide (x < 20) && (shB x y && P x y)) := by unfold regN; rw [rowN_bit]
theorem good_rows (f : Nat → Nat) (h : ∀ y, y < 24 → f y < 1048576 ∧ ∀ x, x < 20 → (f y).testBit x = true → shB x y = true) : goodR (rowsOfR f) = true := by
  refine goodR_yes (rowsOfR_len f) (fun y hy => ?_)
  rw [rowsOfR_getD f hy]
  exact (goodRow_bits (h y hy).1).2 (h y hy).2
theorem good_reg (P : Nat → Nat → Bool) : goodR (rowsOfR (regN P)) = true :=
  good_rows _ fun y _ => ⟨regN_lt P y, fun x hx hb => by rw [regN_bit] at hb; simp at hb; exact hb.2.1⟩
theorem good_zero : goodR (rowsOfR (fun _ => 0)) = true := good_rows _ fun y _ => ⟨by omega, fun x _ hb => by simp at hb⟩
theorem good_wf {X : List Int} (h : goodR X = true) : WfI X := fun z hz => by
  obtain ⟨i, hi, e⟩ := List.mem_iff_getElem.1 hz
  have hl := goodR_len h
  obtain ⟨a, b⟩ := goodR_nat h (y := i) (by omega)
  have e2 : X.getD i 0 = z := by simp [List.getD, List.getElem?_eq_getElem hi, e]
  rw [e2] at a b
  omega
theorem comb_union (P Q : Nat → Nat → Bool) (h : ∀ x y, Q x y = !P x y) : combL 1 (rowsOfR (regN P)) (rowsOfR (regN Q)) = rowsOfR shN := by
  unfold combL rowsOfR
  apply List.map_congr_left
  intro y hy
  rw [List.mem_range] at hy
  have e1 := rowsOfR_getD (regN P) hy
  have e2 := rowsOfR_getD (regN Q) hy
  unfold rowsOfR at e1 e2
  rw [e1, e2]
  show bits .or .i64 _ _ = _
  have l1 := regN_lt P y
  have l2 := regN_lt Q y
  rw [i64_or_nat _ _ (by omega) (by omega)]
  congr 1
  unfold shN
  refine rowN_eq (fun x => shB x y) ?_ (fun x hx => ?_)
  · have := Nat.or_lt_two_pow (show regN P y < 2 ^ 20 by omega) (show regN Q y < 2 ^ 20 by omega); omega
  · rw [Nat.testBit_or, regN_bit, regN_bit, h]
    simp only [hx, decide_true, Bool.true_and]
    cases shB x y <;> cases P x y <;> rfl
theorem comb_inter (P Q : Nat → Nat → Bool) (h : ∀ x y, Q x y = !P x y) : combL 2 (rowsOfR (regN P)) (rowsOfR (regN Q)) = rowsOfR (fun _ => 0) := by
  unfold combL rowsOfR
  apply List.map_congr_left
  intro y hy
  rw [List.mem_range] at hy
  have e1 := rowsOfR_getD (regN P) hy
  have e2 := rowsOfR_getD (regN Q) hy
  unfold rowsOfR at e1 e2
  rw [e1, e2]
  show bits .and .i64 _ _ = _
  have l1 := regN_lt P y
  have l2 := regN_lt Q y
  rw [i64_and_nat _ _ (by omega) (by omega)]
  congr 1
  apply Nat.eq_of_testBit_eq
  intro x
  rw [Nat.testBit_and, regN_bit, regN_bit, h, Nat.zero_testBit]
  cases decide (x < 20) <;> cases shB x y <;> cases P x y <;> rfl
theorem area_zero : ∀ y, y ≤ 24 → areaTo (rowsOfR (fun _ => 0)) y = 0
  | 0, _ => rfl
  | y + 1, h => by
    show areaTo _ y + popN _ = 0
    rw [area_zero y (by omega), rowsOfR_getD _ (by omega)]; rfl
theorem good_sh : goodR (rowsOfR shN) = true := by
  rw [← reg_shB]
  exact good_reg shB
/-- The area of a valid region, its rows named alone. -/
theorem area_named (X : List Int) (N : Int) (hg : RowKit.Hid (goodR X = true)) (hN : RowKit.Hid (((areaTo X 24 : Nat) : Int) = N)) (a : Option Addr) (c : Nat) (W : World) (h : RdI W a 24 X) :
    Calls Tryd.prog 40 #[.agg #[.slice a 24 c]] W fun e w' => e = .returned (.tuple #[.int .i64 N, .bool true]) ∧ Below W.heap.size W w' := by
  have hh := area_impl X 24 a c W h (good_wf hg.out) (by omega)
  rw [hg.out] at hh
  rw [if_pos rfl, hN.out] at hh
  exact hh
/-- The union of valid regions, its rows named alone. -/
theorem union_named (A B S : List Int) (hga : RowKit.Hid (goodR A = true)) (hgb : RowKit.Hid (goodR B = true)) (hs : RowKit.Hid (combL 1 A B = S)) (c1 c2 : Nat) (a1 a2 : Option Addr) (w : World) (h1 : RdI w a1 24 A) (h2 : RdI w a2 24 B) :
    Calls Tryd.prog 37 #[.agg #[.slice a1 24 c1], .agg #[.slice a2 24 c2], .int .i64 1] w (AnsRB w S 24 true) := by
  rw [← hs.out]
  exact comb_impl A B 1 c1 c2 a1 a2 w h1 h2 (good_wf hga.out) (good_wf hgb.out) hga.out hgb.out (by omega) (by omega)
/-- The shield's region, its rows named alone. -/
theorem shield_named (S : List Int) (hs : RowKit.Hid (rowsOfR shN = S)) (W : World) :
    Calls Tryd.prog 60 #[] W fun e w' => ∃ g : Nat, e = .returned (.agg #[.slice (some ⟨g, 0, none⟩) 24 24]) ∧ RdI w' (some ⟨g, 0, none⟩) 24 S ∧ Below W.heap.size W w' := by
  rw [← hs.out]
  exact (shield_impl W).mono (fun e w' ⟨g, h1, h2, h3⟩ => ⟨g, h1, h2.rd, h3⟩)
/-- The intersection of valid regions, its rows named alone. -/
theorem inter_named (A B S : List Int) (hga : RowKit.Hid (goodR A = true)) (hgb : RowKit.Hid (goodR B = true)) (hs : RowKit.Hid (combL 2 A B = S)) (c1 c2 : Nat) (a1 a2 : Option Addr) (w : World) (h1 : RdI w a1 24 A) (h2 : RdI w a2 24 B) :
    Calls Tryd.prog 37 #[.agg #[.slice a1 24 c1], .agg #[.slice a2 24 c2], .int .i64 2] w (AnsRB w S 24 true) := by
  rw [← hs.out]
  exact comb_impl A B 2 c1 c2 a1 a2 w h1 h2 (good_wf hga.out) (good_wf hgb.out) hga.out hgb.out (by omega) (by omega)
end Go.Proofs.YthapidnjioindaaDoor
