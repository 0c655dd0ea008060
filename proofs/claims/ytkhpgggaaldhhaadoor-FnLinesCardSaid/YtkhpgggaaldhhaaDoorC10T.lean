/- Contracts: the program's regions of chapter 10. -/
import Derived.Test.YtkhpgggaaldhhaaDoorC10R
namespace Go.Proofs.YtkhpgggaaldhhaaDoor
open Go.RowKit

set_option maxRecDepth 100000 in
set_option maxHeartbeats 8000000 in
theorem fregion_impl (d l f s p : Int) (w : World) (hT : OffsLie w) (hF : FOk d l f s) (hp0 : 0 ≤ p) (hp1 : p ≤ 1) : Calls Tryd.prog 20 #[.agg #[.int .i64 d, .int .i64 l, .int .i64 f, .int .i64 s], .int .i64 p] w (AnsRB w (rowsOfR (regN (fun i j => ((if lnFirst d l i j = true then (0 : Int) else 1) == p)))) 24 true) := by
  have XF0 := ((BoxF.new w [.int .i64 d, .int .i64 l, .int .i64 f, .int .i64 s] 30).alloc (.cells #[.int .i64 p] 3 (0, 0))).alloc (.cells #[.slice none 0 0] 35 (0, 0))
  have XP0 := (BoxF.new (w.alloc (.cells #[.int .i64 d, .int .i64 l, .int .i64 f, .int .i64 s] 30 (0, 0))) [.int .i64 p] 3).alloc (.cells #[.slice none 0 0] 35 (0, 0))
  have X00 := BoxF.new ((w.alloc (.cells #[.int .i64 d, .int .i64 l, .int .i64 f, .int .i64 s] 30 (0, 0))).alloc (.cells #[.int .i64 p] 3 (0, 0))) [.slice none 0 0] 35
  have hB0 : Below w.heap.size w (((w.alloc (.cells #[.int .i64 d, .int .i64 l, .int .i64 f, .int .i64 s] 30 (0, 0))).alloc (.cells #[.int .i64 p] 3 (0, 0))).alloc (.cells #[.slice none 0 0] 35 (0, 0))) := (((Below.refl _ w).alloc (Nat.le_refl _) _).alloc (by simp) _).alloc (by simp; omega) _
  simp only [World.size_alloc] at XP0 X00
  have d0 := XF0.at 0
  have d1 := XF0.at 1
  have d2 := XF0.at 2
  have d3 := XF0.at 3
  simp only [List.getElem?_cons_zero, List.getElem?_cons_succ] at d0 d1 d2 d3
  have XF0 := Lib.hid XF0
  have XP0 := Lib.hid XP0
  have X00 := Lib.hid X00
  have hB0 := Lib.hid hB0
  have CF := Lib.hid (fun W => validField_impl d l f s W true (decide_eq_true hF))
  have CQ := Lib.hid (fun W => isPart_any p W true (decide_eq_true ⟨hp0, hp1⟩))
  have hF := Lib.hid hF
  have HT := Lib.hid hT
  go_enter Tryd.func20, Tryd.ntmps20
  go_wp2_with fail
  refine (CF.out _).mono ?_
  rintro e w0_ ⟨rfl, hb0⟩
  have hs0 := hb0.size
  simp only [World.size_alloc] at hs0
  have XF := Lib.hid (XF0.out.below hb0)
  have XP := Lib.hid (XP0.out.below hb0)
  have X0 := Lib.hid (X00.out.below hb0)
  have HB0 := Lib.hid (hB0.out.trans (hb0.mono hB0.out.size))
  clear hb0 XF0 XP0 X00 hB0 d0 d1 d2 d3
  have c2 := XP.out.one.1
  go_wp2_with fail
  refine (CQ.out _).mono ?_
  rintro e w' ⟨rfl, rfl⟩
  clear c2
  go_wp2_with fail
  refine (whereFR (fun i j => ((if lnFirst d l i j = true then (0 : Int) else 1) == p)) w.heap.size (w.heap.size + 1) _ (fun W hb x y hx hy hs => frTest d l f s p w.heap.size (w.heap.size + 1) x y W (HT.out.below (HB0.out.trans (hb.mono HB0.out.size))) hF.out (XF.out.below hb) (XP.out.below hb) hx hy hs)).mono ?_
  rintro e w1 ⟨g, rfl, ho, hb1⟩
  have hlt := X0.out.lt
  have X1 := X0.out.below hb1
  have HB1 := HB0.out.trans (hb1.mono HB0.out.size)
  have hsz := HB0.out.size
  obtain ⟨c0, f0⟩ := X1.one
  have hf0 := f0 0
  have X9 := X1.set 0 (.slice (some ⟨g, 0, none⟩) 24 24)
  obtain ⟨z0, _⟩ := X9.one
  have HG := grownBy_set w1 (w.heap.size + 1 + 1) 0 (.slice (some ⟨g, 0, none⟩) 24 24)
  have hgg := (World.ownsRow.lt ho g rfl).1
  try simp only [World.size_alloc] at hgg hsz hlt
  have HO9 := Lib.hid (OwnI.kept (OwnI.low ho (B' := w.heap.size) (by first | omega | (simp; omega))) HG (by right; first | (simp [Value.ownBlock]; done) | (simp [Value.ownBlock]; omega)))
  have HB9 := Lib.hid (HB1.grown HG HB1.size (fun q hq => by cases hq; omega))
  clear X9 HG ho hb1 f0 X1 HB1 X0 HB0
  go_wp2_with fail
  exact bodyPost_ret (v := .tuple #[.agg #[.slice (some ⟨g, 0, none⟩) 24 24], .bool true]) (by simp [results, Tryd.results20, go_sem, z0]) rfl ⟨_, _, rfl, HO9.out, HB9.out⟩
theorem fregion_impl_no (d l f s p : Int) (w : World) (h : ¬ (FOk d l f s ∧ (0 ≤ p ∧ p ≤ 1))) : Calls Tryd.prog 20 #[.agg #[.int .i64 d, .int .i64 l, .int .i64 f, .int .i64 s], .int .i64 p] w (AnsRB w [] 0 false) := by
  have XF0 := ((BoxF.new w [.int .i64 d, .int .i64 l, .int .i64 f, .int .i64 s] 30).alloc (.cells #[.int .i64 p] 3 (0, 0))).alloc (.cells #[.slice none 0 0] 35 (0, 0))
  have XP0 := (BoxF.new (w.alloc (.cells #[.int .i64 d, .int .i64 l, .int .i64 f, .int .i64 s] 30 (0, 0))) [.int .i64 p] 3).alloc (.cells #[.slice none 0 0] 35 (0, 0))
  have X00 := BoxF.new ((w.alloc (.cells #[.int .i64 d, .int .i64 l, .int .i64 f, .int .i64 s] 30 (0, 0))).alloc (.cells #[.int .i64 p] 3 (0, 0))) [.slice none 0 0] 35
  have hB0 : Below w.heap.size w (((w.alloc (.cells #[.int .i64 d, .int .i64 l, .int .i64 f, .int .i64 s] 30 (0, 0))).alloc (.cells #[.int .i64 p] 3 (0, 0))).alloc (.cells #[.slice none 0 0] 35 (0, 0))) := (((Below.refl _ w).alloc (Nat.le_refl _) _).alloc (by simp) _).alloc (by simp; omega) _
  simp only [World.size_alloc] at XP0 X00
  have d0 := XF0.at 0
  have d1 := XF0.at 1
  have d2 := XF0.at 2
  have d3 := XF0.at 3
  simp only [List.getElem?_cons_zero, List.getElem?_cons_succ] at d0 d1 d2 d3
  have XF0 := Lib.hid XF0
  have XP0 := Lib.hid XP0
  have X00 := Lib.hid X00
  have hB0 := Lib.hid hB0
  by_cases hF : FOk d l f s
  · have CF := Lib.hid (fun W => validField_impl d l f s W true (decide_eq_true hF))
    have CQ := Lib.hid (fun W => isPart_any p W false (decide_eq_false fun q => h ⟨hF, q⟩))
    clear h hF
    go_enter Tryd.func20, Tryd.ntmps20
    go_wp2_with fail
    refine (CF.out _).mono ?_
    rintro e w0_ ⟨rfl, hb0⟩
    have hs0 := hb0.size
    simp only [World.size_alloc] at hs0
    have XF := Lib.hid (XF0.out.below hb0)
    have XP := Lib.hid (XP0.out.below hb0)
    have X0 := Lib.hid (X00.out.below hb0)
    have HB0 := Lib.hid (hB0.out.trans (hb0.mono hB0.out.size))
    clear hb0 XF0 XP0 X00 hB0 d0 d1 d2 d3
    have c2 := XP.out.one.1
    go_wp2_with fail
    refine (CQ.out _).mono ?_
    rintro e w' ⟨rfl, rfl⟩
    clear c2
    obtain ⟨c0, f0⟩ := X0.out.one
    have hf0 := f0 0
    have HBN := HB0.out.setCell (p := ⟨w.heap.size + 1 + 1, 0, none⟩) (by show w.heap.size ≤ w.heap.size + 1 + 1; omega) (.slice none 0 0)
    have Z9 := (X0.out.set 0 (.slice none 0 0)).one.1
    go_wp2_with fail
    exact bodyPost_ret (v := .tuple #[.agg #[.slice none 0 0], .bool false]) (by simp [results, Tryd.results20, go_sem, Z9]) rfl ⟨_, _, rfl, ownI_nil _ _, HBN⟩
  · have CF := Lib.hid (fun W => validField_impl d l f s W false (decide_eq_false hF))
    clear h hF
    go_enter Tryd.func20, Tryd.ntmps20
    go_wp2_with fail
    refine (CF.out _).mono ?_
    rintro e w0_ ⟨rfl, hb0⟩
    have hs0 := hb0.size
    simp only [World.size_alloc] at hs0
    have XF := Lib.hid (XF0.out.below hb0)
    have XP := Lib.hid (XP0.out.below hb0)
    have X0 := Lib.hid (X00.out.below hb0)
    have HB0 := Lib.hid (hB0.out.trans (hb0.mono hB0.out.size))
    clear hb0 XF0 XP0 X00 hB0 d0 d1 d2 d3
    obtain ⟨c0, f0⟩ := X0.out.one
    have hf0 := f0 0
    have HBN := HB0.out.setCell (p := ⟨w.heap.size + 1 + 1, 0, none⟩) (by show w.heap.size ≤ w.heap.size + 1 + 1; omega) (.slice none 0 0)
    have Z9 := (X0.out.set 0 (.slice none 0 0)).one.1
    go_wp2_with fail
    exact bodyPost_ret (v := .tuple #[.agg #[.slice none 0 0], .bool false]) (by simp [results, Tryd.results20, go_sem, Z9]) rfl ⟨_, _, rfl, ownI_nil _ _, HBN⟩
set_option maxRecDepth 100000 in
set_option maxHeartbeats 8000000 in
theorem lordc_impl (o l : Int) (w : World) (hT : OffsLie w) (ho : 0 ≤ o ∧ o ≤ 7) (hl : 0 ≤ l ∧ l ≤ 4) : Calls Tryd.prog 38 #[.int .i64 o, .int .i64 l] w (AnsRB w (rowsOfR (regN (fun i j => lnOrd o l i j))) 24 true) := by
  have XO := ((BoxF.new w [.int .i64 o] 3).alloc (.cells #[.int .i64 l] 3 (0, 0))).alloc (.cells #[.slice none 0 0] 35 (0, 0))
  have XL := (BoxF.new (w.alloc (.cells #[.int .i64 o] 3 (0, 0))) [.int .i64 l] 3).alloc (.cells #[.slice none 0 0] 35 (0, 0))
  have X00 := BoxF.new ((w.alloc (.cells #[.int .i64 o] 3 (0, 0))).alloc (.cells #[.int .i64 l] 3 (0, 0))) [.slice none 0 0] 35
  have hB0 : Below w.heap.size w (((w.alloc (.cells #[.int .i64 o] 3 (0, 0))).alloc (.cells #[.int .i64 l] 3 (0, 0))).alloc (.cells #[.slice none 0 0] 35 (0, 0))) := (((Below.refl _ w).alloc (Nat.le_refl _) _).alloc (by simp) _).alloc (by simp; omega) _
  simp only [World.size_alloc] at XL X00
  have c1 := XO.one.1
  have c2 := XL.one.1
  have HF : ∀ W, Below (w.heap.size + 1 + 1 + 1) (((w.alloc (.cells #[.int .i64 o] 3 (0, 0))).alloc (.cells #[.int .i64 l] 3 (0, 0))).alloc (.cells #[.slice none 0 0] 35 (0, 0))) W → ∀ x y : Nat, x < 20 → y < 24 → shB x y = true → Calls Tryd.prog 73 #[.int .i64 (x : Int), .int .i64 (y : Int), .pointer (some ⟨w.heap.size + 1, 0, none⟩), .pointer (some ⟨w.heap.size, 0, none⟩)] W fun e w' => e = .returned (.bool ((fun i j => lnOrd o l i j) x y)) ∧ Below W.heap.size W w' := fun W hb x y hx hy _ => by
    have hbb : Below (((w.alloc (.cells #[.int .i64 o] 3 (0, 0))).alloc (.cells #[.int .i64 l] 3 (0, 0))).alloc (.cells #[.slice none 0 0] 35 (0, 0))).heap.size (((w.alloc (.cells #[.int .i64 o] 3 (0, 0))).alloc (.cells #[.int .i64 l] 3 (0, 0))).alloc (.cells #[.slice none 0 0] 35 (0, 0))) W := by simpa only [World.size_alloc] using hb
    have y1 := (XO.below hbb)
    have y2 := (XL.below hbb)
    exact loTest o l (w.heap.size + 1) w.heap.size x y W (hT.below (hB0.trans (hbb.mono hB0.size))) y2.one.1 y1.one.1 y2.lt y1.lt hx hy ho.1 ho.2 hl.1 hl.2
  have HF := Lib.hid HF
  have X0 := Lib.hid X00
  have HB0 := Lib.hid hB0
  have CL := Lib.hid (fun W => isLine_any l W true (decide_eq_true hl))
  clear XO XL X00 hB0 hT
  by_cases h0 : o = 0
  · have e0 : (o != 0) = false := by simp [h0]
    clear h0
    go_enter Tryd.func38, Tryd.ntmps38
    go_wp2_with fail
    refine (CL.out _).mono ?_
    rintro e w' ⟨rfl, rfl⟩
    go_wp2_with fail
    refine (whereLO (fun i j => lnOrd o l i j) (w.heap.size + 1) w.heap.size _ (by simpa only [World.size_alloc] using HF.out)).mono ?_
    rintro e w1 ⟨g, rfl, ho, hb1⟩
    have hlt := X0.out.lt
    have X1 := X0.out.below hb1
    have HB1 := HB0.out.trans (hb1.mono HB0.out.size)
    have hsz := HB0.out.size
    obtain ⟨c0, f0⟩ := X1.one
    have hf0 := f0 0
    have X9 := X1.set 0 (.slice (some ⟨g, 0, none⟩) 24 24)
    obtain ⟨z0, _⟩ := X9.one
    have HG := grownBy_set w1 (w.heap.size + 1 + 1) 0 (.slice (some ⟨g, 0, none⟩) 24 24)
    have hgg := (World.ownsRow.lt ho g rfl).1
    try simp only [World.size_alloc] at hgg hsz hlt
    have HO9 := Lib.hid (OwnI.kept (OwnI.low ho (B' := w.heap.size) (by first | omega | (simp; omega))) HG (by right; first | (simp [Value.ownBlock]; done) | (simp [Value.ownBlock]; omega)))
    have HB9 := Lib.hid (HB1.grown HG HB1.size (fun q hq => by cases hq; omega))
    clear X9 HG ho hb1 f0 X1 HB1 X0 HB0
    go_wp2_with fail
    exact bodyPost_ret (v := .tuple #[.agg #[.slice (some ⟨g, 0, none⟩) 24 24], .bool true]) (by simp [results, Tryd.results38, go_sem, z0]) rfl ⟨_, _, rfl, HO9.out, HB9.out⟩
  · have e0 : (o != 0) = true := by simp [h0]
    have CO := Lib.hid (fun W => isOrd_any o W true (decide_eq_true (by omega)))
    clear h0
    go_enter Tryd.func38, Tryd.ntmps38
    go_wp2_with fail
    refine (CO.out _).mono ?_
    rintro e w' ⟨rfl, rfl⟩
    go_wp2_with fail
    refine (CL.out _).mono ?_
    rintro e w' ⟨rfl, rfl⟩
    go_wp2_with fail
    refine (whereLO (fun i j => lnOrd o l i j) (w.heap.size + 1) w.heap.size _ (by simpa only [World.size_alloc] using HF.out)).mono ?_
    rintro e w1 ⟨g, rfl, ho, hb1⟩
    have hlt := X0.out.lt
    have X1 := X0.out.below hb1
    have HB1 := HB0.out.trans (hb1.mono HB0.out.size)
    have hsz := HB0.out.size
    obtain ⟨c0, f0⟩ := X1.one
    have hf0 := f0 0
    have X9 := X1.set 0 (.slice (some ⟨g, 0, none⟩) 24 24)
    obtain ⟨z0, _⟩ := X9.one
    have HG := grownBy_set w1 (w.heap.size + 1 + 1) 0 (.slice (some ⟨g, 0, none⟩) 24 24)
    have hgg := (World.ownsRow.lt ho g rfl).1
    try simp only [World.size_alloc] at hgg hsz hlt
    have HO9 := Lib.hid (OwnI.kept (OwnI.low ho (B' := w.heap.size) (by first | omega | (simp; omega))) HG (by right; first | (simp [Value.ownBlock]; done) | (simp [Value.ownBlock]; omega)))
    have HB9 := Lib.hid (HB1.grown HG HB1.size (fun q hq => by cases hq; omega))
    clear X9 HG ho hb1 f0 X1 HB1 X0 HB0
    go_wp2_with fail
    exact bodyPost_ret (v := .tuple #[.agg #[.slice (some ⟨g, 0, none⟩) 24 24], .bool true]) (by simp [results, Tryd.results38, go_sem, z0]) rfl ⟨_, _, rfl, HO9.out, HB9.out⟩
theorem lordc_impl_no (o l : Int) (w : World) (h : ¬ ((0 ≤ o ∧ o ≤ 7) ∧ (0 ≤ l ∧ l ≤ 4))) : Calls Tryd.prog 38 #[.int .i64 o, .int .i64 l] w (AnsRB w [] 0 false) := by
  have XO := ((BoxF.new w [.int .i64 o] 3).alloc (.cells #[.int .i64 l] 3 (0, 0))).alloc (.cells #[.slice none 0 0] 35 (0, 0))
  have XL := (BoxF.new (w.alloc (.cells #[.int .i64 o] 3 (0, 0))) [.int .i64 l] 3).alloc (.cells #[.slice none 0 0] 35 (0, 0))
  have X00 := BoxF.new ((w.alloc (.cells #[.int .i64 o] 3 (0, 0))).alloc (.cells #[.int .i64 l] 3 (0, 0))) [.slice none 0 0] 35
  have hB0 : Below w.heap.size w (((w.alloc (.cells #[.int .i64 o] 3 (0, 0))).alloc (.cells #[.int .i64 l] 3 (0, 0))).alloc (.cells #[.slice none 0 0] 35 (0, 0))) := (((Below.refl _ w).alloc (Nat.le_refl _) _).alloc (by simp) _).alloc (by simp; omega) _
  simp only [World.size_alloc] at XL X00
  have c1 := XO.one.1
  have c2 := XL.one.1
  obtain ⟨c0, f0⟩ := X00.one
  have hf0 := f0 0
  clear XO XL X00 hB0
  by_cases h0 : o = 0
  · have e0 : (o != 0) = false := by simp [h0]
    have CL := Lib.hid (fun W => isLine_any l W false (decide_eq_false fun q => h ⟨by omega, q⟩))
    clear h0 h
    go_enter Tryd.func38, Tryd.ntmps38
    go_wp2_with fail
    refine (CL.out _).mono ?_
    rintro e w' ⟨rfl, rfl⟩
    go_wp2_with fail
    exact bodyPost_ret (v := .tuple #[.agg #[.slice none 0 0], .bool false]) (by simp [results, Tryd.results38, go_sem]) rfl ⟨_, _, rfl, ownI_nil _ _, (((Below.refl _ w).alloc (Nat.le_refl _) _).alloc (by simp) _).alloc (by simp; omega) _⟩
  have e0 : (o != 0) = true := by simp [h0]
  by_cases h1 : 1 ≤ o ∧ o ≤ 7
  · have CO := Lib.hid (fun W => isOrd_any o W true (decide_eq_true h1))
    have CL := Lib.hid (fun W => isLine_any l W false (decide_eq_false fun q => h ⟨by omega, q⟩))
    clear h0 h h1
    go_enter Tryd.func38, Tryd.ntmps38
    go_wp2_with fail
    refine (CO.out _).mono ?_
    rintro e w' ⟨rfl, rfl⟩
    go_wp2_with fail
    refine (CL.out _).mono ?_
    rintro e w' ⟨rfl, rfl⟩
    go_wp2_with fail
    exact bodyPost_ret (v := .tuple #[.agg #[.slice none 0 0], .bool false]) (by simp [results, Tryd.results38, go_sem]) rfl ⟨_, _, rfl, ownI_nil _ _, (((Below.refl _ w).alloc (Nat.le_refl _) _).alloc (by simp) _).alloc (by simp; omega) _⟩
  · have CO := Lib.hid (fun W => isOrd_any o W false (decide_eq_false h1))
    clear h0 h h1
    go_enter Tryd.func38, Tryd.ntmps38
    go_wp2_with fail
    refine (CO.out _).mono ?_
    rintro e w' ⟨rfl, rfl⟩
    go_wp2_with fail
    exact bodyPost_ret (v := .tuple #[.agg #[.slice none 0 0], .bool false]) (by simp [results, Tryd.results38, go_sem]) rfl ⟨_, _, rfl, ownI_nil _ _, (((Below.refl _ w).alloc (Nat.le_refl _) _).alloc (by simp) _).alloc (by simp; omega) _⟩
set_option maxRecDepth 100000 in
set_option maxHeartbeats 8000000 in
theorem swung_impl (d l f s : Int) (w : World) (hT : OffsLie w) (hF : FOk d l f s) : Calls Tryd.prog 35 #[.agg #[.int .i64 d, .int .i64 l, .int .i64 f, .int .i64 s]] w (AnsRB w (rowsOfR (regN (fun i j => (lnFirst d l i j != lnFirst d 0 i j)))) 24 true) := by
  have XF0 := (BoxF.new w [.int .i64 d, .int .i64 l, .int .i64 f, .int .i64 s] 30).alloc (.cells #[.slice none 0 0] 35 (0, 0))
  have X00 := BoxF.new (w.alloc (.cells #[.int .i64 d, .int .i64 l, .int .i64 f, .int .i64 s] 30 (0, 0))) [.slice none 0 0] 35
  have hB0 := ((Below.refl w.heap.size w).alloc (Nat.le_refl _) (.cells #[.int .i64 d, .int .i64 l, .int .i64 f, .int .i64 s] 30 (0, 0))).alloc (by simp) (.cells #[.slice none 0 0] 35 (0, 0))
  simp only [World.size_alloc] at X00
  have d0 := XF0.at 0
  have d1 := XF0.at 1
  have d2 := XF0.at 2
  have d3 := XF0.at 3
  simp only [List.getElem?_cons_zero, List.getElem?_cons_succ] at d0 d1 d2 d3
  have XF0 := Lib.hid XF0
  have X00 := Lib.hid X00
  have hB0 := Lib.hid hB0
  have CF := Lib.hid (fun W => validField_impl d l f s W true (decide_eq_true hF))
  have hF0 : FOk d 0 f s := by
    obtain ⟨h1, h2, h3, h4⟩ := hF
    refine ⟨h1, by omega, h3, ?_⟩
    rcases h4 with ⟨h5, h6, h7⟩ | h5
    · exact .inl ⟨h5, rfl, h7⟩
    · exact .inr h5
  have HF := Lib.hid (And.intro hF hF0)
  have HT := Lib.hid hT
  clear hF0
  go_enter Tryd.func35, Tryd.ntmps35
  go_wp2_with fail
  refine (CF.out _).mono ?_
  rintro e w0_ ⟨rfl, hb0⟩
  have hs0 := hb0.size
  simp only [World.size_alloc] at hs0
  have XF := Lib.hid (XF0.out.below hb0)
  have X0 := Lib.hid (X00.out.below hb0)
  have HB0 := Lib.hid (hB0.out.trans (hb0.mono hB0.out.size))
  clear hb0 XF0 X00 hB0 d0 d1 d2 d3
  have d0 := XF.out.at 0
  have d1 := XF.out.at 1
  have d2 := XF.out.at 2
  have d3 := XF.out.at 3
  simp only [List.getElem?_cons_zero, List.getElem?_cons_succ] at d0 d1 d2 d3
  have XS := Lib.hid (show BoxF (w0_.alloc (.cells #[.int .i64 d, .int .i64 0, .int .i64 f, .int .i64 s] 30 (0, 0))) w0_.heap.size [.int .i64 d, .int .i64 0, .int .i64 f, .int .i64 s] 30 from BoxF.new w0_ [.int .i64 d, .int .i64 0, .int .i64 f, .int .i64 s] 30)
  have XF_ := Lib.hid (XF.out.alloc (.cells #[.int .i64 d, .int .i64 0, .int .i64 f, .int .i64 s] 30 (0, 0)))
  have X0_ := Lib.hid (X0.out.alloc (.cells #[.int .i64 d, .int .i64 0, .int .i64 f, .int .i64 s] 30 (0, 0)))
  have HB0_ := Lib.hid (HB0.out.alloc HB0.out.size (.cells #[.int .i64 d, .int .i64 0, .int .i64 f, .int .i64 s] 30 (0, 0)))
  clear XF X0 HB0
  have XF := XF_
  have X0 := X0_
  have HB0 := HB0_
  clear XF_ X0_ HB0_
  obtain ⟨qs, hqs⟩ : ∃ q, w0_.heap.size = q := ⟨_, rfl⟩
  rw [hqs] at XS hs0
  go_wp2_with fail
  refine (whereSW (fun i j => (lnFirst d l i j != lnFirst d 0 i j)) w.heap.size qs _ (fun W hb x y hx hy hs => swTest d l f s w.heap.size qs x y W (HT.out.below (HB0.out.trans (hb.mono HB0.out.size))) HF.out.1 HF.out.2 (XF.out.below hb) (XS.out.below hb) hx hy hs)).mono ?_
  rintro e w1 ⟨g, rfl, ho, hb1⟩
  have hlt := X0.out.lt
  have X1 := X0.out.below hb1
  have HB1 := HB0.out.trans (hb1.mono HB0.out.size)
  have hsz := HB0.out.size
  obtain ⟨c0, f0⟩ := X1.one
  have hf0 := f0 0
  have X9 := X1.set 0 (.slice (some ⟨g, 0, none⟩) 24 24)
  obtain ⟨z0, _⟩ := X9.one
  have HG := grownBy_set w1 (w.heap.size + 1) 0 (.slice (some ⟨g, 0, none⟩) 24 24)
  have hgg := (World.ownsRow.lt ho g rfl).1
  try simp only [World.size_alloc] at hgg hsz hlt
  have HO9 := Lib.hid (OwnI.kept (OwnI.low ho (B' := w.heap.size) (by first | omega | (simp; omega))) HG (by right; first | (simp [Value.ownBlock]; done) | (simp [Value.ownBlock]; omega)))
  have HB9 := Lib.hid (HB1.grown HG HB1.size (fun q hq => by cases hq; omega))
  clear X9 HG ho hb1 f0 X1 HB1 X0 HB0
  go_wp2_with fail
  exact bodyPost_ret (v := .tuple #[.agg #[.slice (some ⟨g, 0, none⟩) 24 24], .bool true]) (by simp [results, Tryd.results35, go_sem, z0]) rfl ⟨_, _, rfl, HO9.out, HB9.out⟩
theorem swung_impl_no (d l f s : Int) (w : World) (h : ¬ FOk d l f s) : Calls Tryd.prog 35 #[.agg #[.int .i64 d, .int .i64 l, .int .i64 f, .int .i64 s]] w (AnsRB w [] 0 false) := by
  have XF0 := (BoxF.new w [.int .i64 d, .int .i64 l, .int .i64 f, .int .i64 s] 30).alloc (.cells #[.slice none 0 0] 35 (0, 0))
  have X00 := BoxF.new (w.alloc (.cells #[.int .i64 d, .int .i64 l, .int .i64 f, .int .i64 s] 30 (0, 0))) [.slice none 0 0] 35
  have hB0 := ((Below.refl w.heap.size w).alloc (Nat.le_refl _) (.cells #[.int .i64 d, .int .i64 l, .int .i64 f, .int .i64 s] 30 (0, 0))).alloc (by simp) (.cells #[.slice none 0 0] 35 (0, 0))
  simp only [World.size_alloc] at X00
  have d0 := XF0.at 0
  have d1 := XF0.at 1
  have d2 := XF0.at 2
  have d3 := XF0.at 3
  simp only [List.getElem?_cons_zero, List.getElem?_cons_succ] at d0 d1 d2 d3
  have XF0 := Lib.hid XF0
  have X00 := Lib.hid X00
  have hB0 := Lib.hid hB0
  have CF := Lib.hid (fun W => validField_impl d l f s W false (decide_eq_false h))
  clear h
  go_enter Tryd.func35, Tryd.ntmps35
  go_wp2_with fail
  refine (CF.out _).mono ?_
  rintro e w0_ ⟨rfl, hb0⟩
  have hs0 := hb0.size
  simp only [World.size_alloc] at hs0
  have XF := Lib.hid (XF0.out.below hb0)
  have X0 := Lib.hid (X00.out.below hb0)
  have HB0 := Lib.hid (hB0.out.trans (hb0.mono hB0.out.size))
  clear hb0 XF0 X00 hB0 d0 d1 d2 d3
  obtain ⟨c0, f0⟩ := X0.out.one
  have hf0 := f0 0
  have HBN := HB0.out.setCell (p := ⟨w.heap.size + 1, 0, none⟩) (by show w.heap.size ≤ w.heap.size + 1; omega) (.slice none 0 0)
  have Z9 := (X0.out.set 0 (.slice none 0 0)).one.1
  go_wp2_with fail
  exact bodyPost_ret (v := .tuple #[.agg #[.slice none 0 0], .bool false]) (by simp [results, Tryd.results35, go_sem, Z9]) rfl ⟨_, _, rfl, ownI_nil _ _, HBN⟩
end Go.Proofs.YtkhpgggaaldhhaaDoor
