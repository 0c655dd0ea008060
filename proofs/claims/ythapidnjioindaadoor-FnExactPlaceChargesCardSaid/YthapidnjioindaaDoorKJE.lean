/- Several small texts in one: C10R, C10T. -/
import Derived.Test.YthapidnjioindaaDoorKJD
import Derived.Test.YthapidnjioindaaDoorKIC
import Derived.Deep.RegionHeld3
namespace Go.Proofs.YthapidnjioindaaDoor
open Go.RowKit

end Go.Proofs.YthapidnjioindaaDoor
namespace Go.Proofs.YthapidnjioindaaDoor
open Go.RowKit

set_option maxRecDepth 100000 in
set_option maxHeartbeats 8000000 in
theorem lordc_impl (o l : Int) (w : World) (hT : OffsLie w) (ho : 0 ≤ o ∧ o ≤ 7) (hl : 0 ≤ l ∧ l ≤ 4) : Calls Tryd.prog 74 #[.int .i64 o, .int .i64 l] w (AnsRB w (rowsOfR (regN (fun i j => lnOrd o l i j))) 24 true) := by
  have XO := ((BoxF.new w [.int .i64 o] 3).alloc (.cells #[.int .i64 l] 3 (0, 0))).alloc (.cells #[.slice none 0 0] 26 (0, 0))
  have XL := (BoxF.new (w.alloc (.cells #[.int .i64 o] 3 (0, 0))) [.int .i64 l] 3).alloc (.cells #[.slice none 0 0] 26 (0, 0))
  have X00 := BoxF.new ((w.alloc (.cells #[.int .i64 o] 3 (0, 0))).alloc (.cells #[.int .i64 l] 3 (0, 0))) [.slice none 0 0] 26
  have hB0 : Below w.heap.size w (((w.alloc (.cells #[.int .i64 o] 3 (0, 0))).alloc (.cells #[.int .i64 l] 3 (0, 0))).alloc (.cells #[.slice none 0 0] 26 (0, 0))) := (((Below.refl _ w).alloc (Nat.le_refl _) _).alloc (by simp) _).alloc (by simp; omega) _
  simp only [World.size_alloc] at XL X00
  have c1 := XO.one.1
  have c2 := XL.one.1
  have HF : ∀ W, Below (w.heap.size + 1 + 1 + 1) (((w.alloc (.cells #[.int .i64 o] 3 (0, 0))).alloc (.cells #[.int .i64 l] 3 (0, 0))).alloc (.cells #[.slice none 0 0] 26 (0, 0))) W → ∀ x y : Nat, x < 20 → y < 24 → shB x y = true → Calls Tryd.prog 111 #[.int .i64 (x : Int), .int .i64 (y : Int), .pointer (some ⟨w.heap.size + 1, 0, none⟩), .pointer (some ⟨w.heap.size, 0, none⟩)] W fun e w' => e = .returned (.bool ((fun i j => lnOrd o l i j) x y)) ∧ Below W.heap.size W w' := fun W hb x y hx hy _ => by
    have hbb : Below (((w.alloc (.cells #[.int .i64 o] 3 (0, 0))).alloc (.cells #[.int .i64 l] 3 (0, 0))).alloc (.cells #[.slice none 0 0] 26 (0, 0))).heap.size (((w.alloc (.cells #[.int .i64 o] 3 (0, 0))).alloc (.cells #[.int .i64 l] 3 (0, 0))).alloc (.cells #[.slice none 0 0] 26 (0, 0))) W := by simpa only [World.size_alloc] using hb
    have y1 := (XO.below hbb)
    have y2 := (XL.below hbb)
    exact loTest o l (w.heap.size + 1) w.heap.size x y W (hT.below (hB0.trans (hbb.mono hB0.size))) y2.one.1 y1.one.1 y2.lt y1.lt hx hy ho.1 ho.2 hl.1 hl.2
  have HF := Lib.hid HF
  have X0 := Lib.hid X00
  have HB0 := Lib.hid hB0
  have CL := Lib.hid (fun W => isLine_any l W true (decide_eq_true hl))
  clear XO XL X00 hB0 hT
  by_cases h0 : o = 0
  · have e0 : (o != 0) = false := by simp [h0]
    clear h0
    go_enter Tryd.func74, Tryd.ntmps74
    go_wp2_with fail
    refine (CL.out _).mono ?_
    rintro e w' ⟨rfl, rfl⟩
    go_wp2_with fail
    refine (whereLO (fun i j => lnOrd o l i j) (w.heap.size + 1) w.heap.size _ (by simpa only [World.size_alloc] using HF.out)).mono ?_
    rintro e w1 ⟨g, rfl, ho, hb1⟩
    have hlt := X0.out.lt
    have X1 := X0.out.below hb1
    have HB1 := HB0.out.trans (hb1.mono HB0.out.size)
    have hsz := HB0.out.size
    obtain ⟨c0, f0⟩ := X1.one
    have hf0 := f0 0
    have X9 := X1.set 0 (.slice (some ⟨g, 0, none⟩) 24 24)
    obtain ⟨z0, _⟩ := X9.one
    have HG := grownBy_set w1 (w.heap.size + 1 + 1) 0 (.slice (some ⟨g, 0, none⟩) 24 24)
    have hgg := (World.ownsRow.lt ho g rfl).1
    try simp only [World.size_alloc] at hgg hsz hlt
    have HO9 := Lib.hid (OwnI.kept (OwnI.low ho (B' := w.heap.size) (by first | omega | (simp; omega))) HG (by right; first | (simp [Value.ownBlock]; done) | (simp [Value.ownBlock]; omega)))
    have HB9 := Lib.hid (HB1.grown HG HB1.size (fun q hq => by cases hq; omega))
    clear X9 HG ho hb1 f0 X1 HB1 X0 HB0
    go_wp2_with fail
    exact bodyPost_ret (v := .tuple #[.agg #[.slice (some ⟨g, 0, none⟩) 24 24], .bool true]) (by simp [results, Tryd.results74, go_sem, z0]) rfl ⟨_, _, rfl, HO9.out, HB9.out⟩
  · have e0 : (o != 0) = true := by simp [h0]
    have CO := Lib.hid (fun W => isOrd_any o W true (decide_eq_true (by omega)))
    clear h0
    go_enter Tryd.func74, Tryd.ntmps74
    go_wp2_with fail
    refine (CO.out _).mono ?_
    rintro e w' ⟨rfl, rfl⟩
    go_wp2_with fail
    refine (CL.out _).mono ?_
    rintro e w' ⟨rfl, rfl⟩
    go_wp2_with fail
    refine (whereLO (fun i j => lnOrd o l i j) (w.heap.size + 1) w.heap.size _ (by simpa only [World.size_alloc] using HF.out)).mono ?_
    rintro e w1 ⟨g, rfl, ho, hb1⟩
    have hlt := X0.out.lt
    have X1 := X0.out.below hb1
    have HB1 := HB0.out.trans (hb1.mono HB0.out.size)
    have hsz := HB0.out.size
    obtain ⟨c0, f0⟩ := X1.one
    have hf0 := f0 0
    have X9 := X1.set 0 (.slice (some ⟨g, 0, none⟩) 24 24)
    obtain ⟨z0, _⟩ := X9.one
    have HG := grownBy_set w1 (w.heap.size + 1 + 1) 0 (.slice (some ⟨g, 0, none⟩) 24 24)
    have hgg := (World.ownsRow.lt ho g rfl).1
    try simp only [World.size_alloc] at hgg hsz hlt
    have HO9 := Lib.hid (OwnI.kept (OwnI.low ho (B' := w.heap.size) (by first | omega | (simp; omega))) HG (by right; first | (simp [Value.ownBlock]; done) | (simp [Value.ownBlock]; omega)))
    have HB9 := Lib.hid (HB1.grown HG HB1.size (fun q hq => by cases hq; omega))
    clear X9 HG ho hb1 f0 X1 HB1 X0 HB0
    go_wp2_with fail
    exact bodyPost_ret (v := .tuple #[.agg #[.slice (some ⟨g, 0, none⟩) 24 24], .bool true]) (by simp [results, Tryd.results74, go_sem, z0]) rfl ⟨_, _, rfl, HO9.out, HB9.out⟩
theorem lordc_impl_no (o l : Int) (w : World) (h : ¬ ((0 ≤ o ∧ o ≤ 7) ∧ (0 ≤ l ∧ l ≤ 4))) : Calls Tryd.prog 74 #[.int .i64 o, .int .i64 l] w (AnsRB w [] 0 false) := by
  have XO := ((BoxF.new w [.int .i64 o] 3).alloc (.cells #[.int .i64 l] 3 (0, 0))).alloc (.cells #[.slice none 0 0] 26 (0, 0))
  have XL := (BoxF.new (w.alloc (.cells #[.int .i64 o] 3 (0, 0))) [.int .i64 l] 3).alloc (.cells #[.slice none 0 0] 26 (0, 0))
  have X00 := BoxF.new ((w.alloc (.cells #[.int .i64 o] 3 (0, 0))).alloc (.cells #[.int .i64 l] 3 (0, 0))) [.slice none 0 0] 26
  have hB0 : Below w.heap.size w (((w.alloc (.cells #[.int .i64 o] 3 (0, 0))).alloc (.cells #[.int .i64 l] 3 (0, 0))).alloc (.cells #[.slice none 0 0] 26 (0, 0))) := (((Below.refl _ w).alloc (Nat.le_refl _) _).alloc (by simp) _).alloc (by simp; omega) _
  simp only [World.size_alloc] at XL X00
  have c1 := XO.one.1
  have c2 := XL.one.1
  obtain ⟨c0, f0⟩ := X00.one
  have hf0 := f0 0
  clear XO XL X00 hB0
  by_cases h0 : o = 0
  · have e0 : (o != 0) = false := by simp [h0]
    have CL := Lib.hid (fun W => isLine_any l W false (decide_eq_false fun q => h ⟨by omega, q⟩))
    clear h0 h
    go_enter Tryd.func74, Tryd.ntmps74
    go_wp2_with fail
    refine (CL.out _).mono ?_
    rintro e w' ⟨rfl, rfl⟩
    go_wp2_with fail
    exact bodyPost_ret (v := .tuple #[.agg #[.slice none 0 0], .bool false]) (by simp [results, Tryd.results74, go_sem]) rfl ⟨_, _, rfl, ownI_nil _ _, (((Below.refl _ w).alloc (Nat.le_refl _) _).alloc (by simp) _).alloc (by simp; omega) _⟩
  have e0 : (o != 0) = true := by simp [h0]
  by_cases h1 : 1 ≤ o ∧ o ≤ 7
  · have CO := Lib.hid (fun W => isOrd_any o W true (decide_eq_true h1))
    have CL := Lib.hid (fun W => isLine_any l W false (decide_eq_false fun q => h ⟨by omega, q⟩))
    clear h0 h h1
    go_enter Tryd.func74, Tryd.ntmps74
    go_wp2_with fail
    refine (CO.out _).mono ?_
    rintro e w' ⟨rfl, rfl⟩
    go_wp2_with fail
    refine (CL.out _).mono ?_
    rintro e w' ⟨rfl, rfl⟩
    go_wp2_with fail
    exact bodyPost_ret (v := .tuple #[.agg #[.slice none 0 0], .bool false]) (by simp [results, Tryd.results74, go_sem]) rfl ⟨_, _, rfl, ownI_nil _ _, (((Below.refl _ w).alloc (Nat.le_refl _) _).alloc (by simp) _).alloc (by simp; omega) _⟩
  · have CO := Lib.hid (fun W => isOrd_any o W false (decide_eq_false h1))
    clear h0 h h1
    go_enter Tryd.func74, Tryd.ntmps74
    go_wp2_with fail
    refine (CO.out _).mono ?_
    rintro e w' ⟨rfl, rfl⟩
    go_wp2_with fail
    exact bodyPost_ret (v := .tuple #[.agg #[.slice none 0 0], .bool false]) (by simp [results, Tryd.results74, go_sem]) rfl ⟨_, _, rfl, ownI_nil _ _, (((Below.refl _ w).alloc (Nat.le_refl _) _).alloc (by simp) _).alloc (by simp; omega) _⟩
end Go.Proofs.YthapidnjioindaaDoor
