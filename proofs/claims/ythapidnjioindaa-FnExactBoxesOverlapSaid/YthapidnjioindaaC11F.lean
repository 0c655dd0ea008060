/- Contracts: IsValidBox of the program, BoxFits of both sides. -/
import Derived.Test.YthapidnjioindaaC11E
namespace Go.Proofs.Ythapidnjioindaa
open Go.RowKit

set_option maxRecDepth 100000 in
set_option maxHeartbeats 4000000 in
theorem validBox_impl (x y n : Int) (w : World) :
    Calls Try.prog 8 #[.agg #[.int .i64 x, .int .i64 y, .int .i64 n]] w fun e w' => e = .returned (.bool (boxB x y n)) ∧ Below w.heap.size w w' := by
  have XA := BoxF.new w [.int .i64 x, .int .i64 y, .int .i64 n] 25
  have hb := (Below.refl _ w).alloc (Nat.le_refl _) (.cells #[.int .i64 x, .int .i64 y, .int .i64 n] 25 (0, 0))
  have d0 := XA.at 0
  have d1 := XA.at 1
  have d2 := XA.at 2
  simp only [List.getElem?_cons_zero, List.getElem?_cons_succ] at d0 d1 d2
  have HX := Lib.hid XA
  have HB := Lib.hid hb
  clear hb XA
  obtain ⟨p1, h1⟩ : ∃ p, decide (1 ≤ n ∧ n ≤ 8) = p := ⟨_, rfl⟩
  have C1 := Lib.hid (fun W => boxSize_any n W p1 h1)
  cases p1
  · rw [boxB_out (fun q => of_decide_eq_false h1 q.1)]
    clear h1
    go_enter Try.func8, Try.ntmps8
    go_wp2_with fail
    refine (C1.out _).mono ?_
    rintro e w' ⟨rfl, rfl⟩
    go_wp2_with fail
    go_ret
    exact ⟨rfl, HB.out⟩
  have g1 := of_decide_eq_true h1
  clear h1
  have hn1 := g1.1
  have hn8 := g1.2
  by_cases he1 : x < 0
  · rw [boxB_out (fun q => by omega)]
    have e1 : decide (x < 0) = true := decide_eq_true he1
    go_enter Try.func8, Try.ntmps8
    go_wp2_with fail
    refine (C1.out _).mono ?_
    rintro e w' ⟨rfl, rfl⟩
    go_wp2_with fail
    go_ret
    exact ⟨rfl, HB.out⟩
  have e1 : decide (x < 0) = false := decide_eq_false he1
  by_cases he2 : 20 - n < x
  · rw [boxB_out (fun q => by omega)]
    have e2 : decide (20 - n < x) = true := decide_eq_true he2
    go_enter Try.func8, Try.ntmps8
    go_wp2_with fail
    refine (C1.out _).mono ?_
    rintro e w' ⟨rfl, rfl⟩
    go_wp2_with fail
    go_ret
    exact ⟨rfl, HB.out⟩
  have e2 : decide (20 - n < x) = false := decide_eq_false he2
  by_cases he3 : y < 0
  · rw [boxB_out (fun q => by omega)]
    have e3 : decide (y < 0) = true := decide_eq_true he3
    go_enter Try.func8, Try.ntmps8
    go_wp2_with fail
    refine (C1.out _).mono ?_
    rintro e w' ⟨rfl, rfl⟩
    go_wp2_with fail
    go_ret
    exact ⟨rfl, HB.out⟩
  have e3 : decide (y < 0) = false := decide_eq_false he3
  by_cases he4 : 24 - n < y
  · rw [boxB_out (fun q => by omega)]
    have e4 : decide (24 - n < y) = true := decide_eq_true he4
    go_enter Try.func8, Try.ntmps8
    go_wp2_with fail
    refine (C1.out _).mono ?_
    rintro e w' ⟨rfl, rfl⟩
    go_wp2_with fail
    go_ret
    exact ⟨rfl, HB.out⟩
  have e4 : decide (24 - n < y) = false := decide_eq_false he4
  obtain ⟨z, hz⟩ : ∃ z, whole (tb shN) x.toNat y.toNat n.toNat = z := ⟨_, rfl⟩
  have hbz : boxB x y n = z := by
    rw [← hz, ← boxB_in (by omega) (by omega) (by omega) (by omega)]
    rw [show ((x.toNat : Nat) : Int) = x by omega, show ((y.toNat : Nat) : Int) = y by omega, show ((n.toNat : Nat) : Int) = n by omega]
  have CW := fun (a : Option Addr) (W : World) (h : RdI W a 24 (rowsOfR shN)) => within_any shN x.toNat y.toNat n.toNat a 24 W h (fun j _ => shN_lt j) (Nat.le_refl _) (by omega) (by omega) (by omega) (by omega)
  rw [hz, show ((x.toNat : Nat) : Int) = x by omega, show ((y.toNat : Nat) : Int) = y by omega, show ((n.toNat : Nat) : Int) = n by omega] at CW
  rw [hbz]
  have CW := Lib.hid CW
  clear hz hbz g1
  go_enter Try.func8, Try.ntmps8
  go_wp2_with fail
  refine (C1.out _).mono ?_
  rintro e w' ⟨rfl, rfl⟩
  clear C1
  go_upto_region 3 with fail
  refine wp_region_noPanic ?_
  refine wp_region_held_drew (S := fun W => BoxF W w.heap.size [.int .i64 x, .int .i64 y, .int .i64 n] 25 ∧ Below w.heap.size w W) (by kernel_rfl) ⟨HX.out, below_drewN' HB.out 1⟩ (fun hHeld => ?_)
  generalize (w.alloc (.cells #[.int .i64 x, .int .i64 y, .int .i64 n] 25 (0, 0))).drew = Wd at *
  clear hn1 hn8 e1 e2 e3 e4 he1 he2 he3 he4 d0 d1 d2
  refine wpAnyH_take (i := 0) (oi := { dst := some 33, op := _, type := _, pos := _, after := _, guard := _ }) (v := .agg #[.int .i64 x, .int .i64 y, .int .i64 n]) rfl (by kernel_rfl) (by kernel_rfl) (by kernel_rfl) (fun _ _ _ h => h) (Or.inl ⟨by rfl, ?_⟩) hHeld ?_
  · (intro w_ hSw; have c0_ := hSw.1.at 0; have c1_ := hSw.1.at 1; have c2_ := hSw.1.at 2; set_option linter.unusedSimpArgs false in simp only [List.getElem?_cons_zero, List.getElem?_cons_succ] at c0_ c1_ c2_; clear hSw; go_simp; first | done | with_reducible rfl | rfl | (intro h_; omega) | (simp only [IntKind.wrap, IntKind.bits, IntKind.signed]; omega) | (simp [IntKind.wrap, IntKind.bits, IntKind.signed]; omega))
  set_option linter.unusedSimpArgs false in try simp only [Act.put, List.setIfInBounds_toArray, List.set_cons_zero, List.set_cons_succ]
  refine wpAnyH_ready (rs := [1]) (by kernel_rfl) (by simp) ?_
  refine AllReadyH.cons rfl (fun K hK => ?_) ?_
  rotate_left
  · exact AllReadyH.nil
  try rw [if_pos (by rfl)]
  go_simp
  refine (shield_impl _).mono ?_
  rintro e w3 ⟨gA, rfl, hoA, hbA⟩
  have HOA := Lib.hid hoA
  have g0 : BoxF w3 w.heap.size [.int .i64 x, .int .i64 y, .int .i64 n] 25 ∧ Below w.heap.size w w3 := ⟨hHeld.1.below hbA, hHeld.2.trans (hbA.mono hHeld.2.size)⟩
  clear hoA hbA
  go_wp2_with fail
  refine hK.out _ _ (g0) (fun hHeld => ?_)
  clear hK K
  set_option linter.unusedSimpArgs false in try simp only [Act.put, List.setIfInBounds_toArray, List.set_cons_zero, List.set_cons_succ]

  refine wpAnyH_take (i := 2) (oi := { dst := some 35, op := _, type := _, pos := _, after := _, guard := _ }) (v := .slice (some ⟨gA, 0, none⟩) 24 24) rfl (by kernel_rfl) (by kernel_rfl) (by kernel_rfl) (fun _ _ _ h => h) (Or.inl ⟨by rfl, ?_⟩) hHeld ?_
  · (intro w_ hSw; have f_ := field_rows (some ⟨gA, 0, none⟩) 24 24 w_; clear hSw; go_simp; first | done | with_reducible rfl | rfl | (intro h_; omega) | (simp only [IntKind.wrap, IntKind.bits, IntKind.signed]; omega) | (simp [IntKind.wrap, IntKind.bits, IntKind.signed]; omega))
  set_option linter.unusedSimpArgs false in try simp only [Act.put, List.setIfInBounds_toArray, List.set_cons_zero, List.set_cons_succ]
  refine wpAnyH_ready (rs := [3]) (by kernel_rfl) (by simp) ?_
  refine AllReadyH.cons rfl (fun K hK => ?_) ?_
  rotate_left
  · exact AllReadyH.nil
  try rw [if_pos (by rfl)]
  go_simp
  refine (CW.out _ _ HOA.out.rd).mono ?_
  rintro e w4 ⟨rfl, hbB⟩
  have g1 : BoxF w4 w.heap.size [.int .i64 x, .int .i64 y, .int .i64 n] 25 ∧ Below w.heap.size w w4 := ⟨g0.1.below hbB, g0.2.trans (hbB.mono g0.2.size)⟩
  clear hbB
  go_wp2_with fail
  refine hK.out _ _ (g1) (fun hHeld => ?_)
  clear hK K
  set_option linter.unusedSimpArgs false in try simp only [Act.put, List.setIfInBounds_toArray, List.set_cons_zero, List.set_cons_succ]

  refine wpAnyH_take (i := 4) (oi := { dst := some 2, op := _, type := _, pos := _, after := _, guard := _ }) (v := .bool z) rfl (by kernel_rfl) (by kernel_rfl) (by kernel_rfl) (fun _ _ _ h => h) (Or.inl ⟨by rfl, ?_⟩) hHeld ?_
  · (intro w_ hSw; clear hSw; go_simp; first | done | with_reducible rfl | rfl | (intro h_; omega) | (simp only [IntKind.wrap, IntKind.bits, IntKind.signed]; omega) | (simp [IntKind.wrap, IntKind.bits, IntKind.signed]; omega))
  set_option linter.unusedSimpArgs false in try simp only [Act.put, List.setIfInBounds_toArray, List.set_cons_zero, List.set_cons_succ]
  refine wpAnyH_done (by kernel_rfl) ?_ _
  refine NoPanic.normal ?_
  have HB2 := Lib.hid hHeld.2
  clear hHeld
  go_wp2_with fail
  go_ret
  exact ⟨by first | rfl | simp, HB2.out⟩

/-- The box lies in the region: of rows that are those of a region, and a valid box. -/
def fitB (X : List Int) (x y n : Int) : Bool := whole (tb (fun j => (X.getD j 0).toNat)) x.toNat y.toNat n.toNat
theorem fitB_rows (V : Nat → Nat) {x y n : Nat} (hy : y + n ≤ 24) : fitB (rowsOfR V) (x : Int) (y : Int) (n : Int) = whole (tb V) x y n := by
  unfold fitB
  simp only [Int.toNat_natCast]
  have q : ∀ j, j < n → ∀ i, tb (fun j => ((rowsOfR V).getD j 0).toNat) (x + i) (y + j) = tb V (x + i) (y + j) := fun j hj i => by
    show (((rowsOfR V).getD (y + j) 0).toNat).testBit (x + i) = _
    rw [rowsOfR_getD V (by omega)]; simp [tb]
  rw [Bool.eq_iff_iff, whole_iff, whole_iff]
  constructor
  · intro h j hj i hi; rw [← q j hj i]; exact h j hj i hi
  · intro h j hj i hi; rw [q j hj i]; exact h j hj i hi
set_option maxRecDepth 100000 in
set_option maxHeartbeats 4000000 in
theorem boxFits_impl (X : List Int) (n : Nat) (a : Option Addr) (c : Nat) (x y k : Int) (w : World) (h : RdI w a n X) (hwf : WfI X) (hn : n ≤ 1048577) (hc : goodR X = true → 24 ≤ c) :
    Calls Try.prog 12 #[.agg #[.slice a n c], .agg #[.int .i64 x, .int .i64 y, .int .i64 k]] w fun e w' => e = .returned (.tuple #[.bool (goodR X && (boxB x y k && fitB X x y k)), .bool (goodR X && boxB x y k)]) ∧ Below w.heap.size w w' := by
  have XR := (BoxF.new w [.slice a n c] 34).alloc (.cells #[.int .i64 x, .int .i64 y, .int .i64 k] 25 (0, 0))
  have XB := BoxF.new (w.alloc (.cells #[.slice a n c] 34 (0, 0))) [.int .i64 x, .int .i64 y, .int .i64 k] 25
  have hb := ((Below.refl _ w).alloc (Nat.le_refl _) (.cells #[.slice a n c] 34 (0, 0))).alloc (by simp) (.cells #[.int .i64 x, .int .i64 y, .int .i64 k] 25 (0, 0))
  simp only [World.size_alloc] at XB
  have c1 := XR.one.1
  have HXR := Lib.hid XR
  have HXB := Lib.hid XB
  have HB := Lib.hid hb
  have HR := Lib.hid h
  have CV := Lib.hid (fun W (h : RdI W a n X) => valid_impl X n a c W h hwf hn)
  have CB := Lib.hid (fun W => validBox_impl x y k W)
  clear h XR XB hb hwf
  obtain ⟨g, hg⟩ : ∃ g, goodR X = g := ⟨_, rfl⟩
  obtain ⟨v, hv⟩ : ∃ v, boxB x y k = v := ⟨_, rfl⟩
  rw [hg] at CV ⊢
  rw [hv] at CB ⊢
  cases g
  · clear hg hv
    go_enter Try.func12, Try.ntmps12
    go_wp2_with fail
    refine (CV.out _ (HR.out.below HB.out)).mono ?_
    rintro e w1 ⟨rfl, hb1⟩
    have HB1 := Lib.hid (HB.out.trans (hb1.mono HB.out.size))
    clear hb1 c1
    go_wp2_with fail
    go_ret2
    exact ⟨rfl, HB1.out⟩
  cases v
  · clear hg hv
    go_enter Try.func12, Try.ntmps12
    go_wp2_with fail
    refine (CV.out _ (HR.out.below HB.out)).mono ?_
    rintro e w1 ⟨rfl, hb1⟩
    have HB1 := Lib.hid (HB.out.trans (hb1.mono HB.out.size))
    have XB1 := HXB.out.below hb1
    have d0 := XB1.at 0
    have d1 := XB1.at 1
    have d2 := XB1.at 2
    simp only [List.getElem?_cons_zero, List.getElem?_cons_succ] at d0 d1 d2
    clear hb1 c1 XB1
    go_wp2_with fail
    refine (CB.out _).mono ?_
    rintro e w2 ⟨rfl, hb2⟩
    have HB2 := Lib.hid (HB1.out.trans (hb2.mono HB1.out.size))
    clear hb2 d0 d1 d2
    go_wp2_with fail
    go_ret2
    exact ⟨rfl, HB2.out⟩
  have hc24 := hc hg
  clear hc
  obtain ⟨V, rfl, hV⟩ := good_out hg
  have h24 : n = 24 := by rw [← HR.out.1]; exact goodR_len hg
  subst h24
  obtain ⟨x', y', k', rfl, rfl, rfl, q1, q2, q3, q4, _⟩ := boxB_yes hv
  rw [fitB_rows V q4]
  have CW := Lib.hid (fun W (h : RdI W a 24 (rowsOfR V)) => within_any V x' y' k' a c W h (fun j hj => (hV j hj).1) hc24 q1 q2 q3 q4)
  clear hg hv hV
  generalize whole (tb V) x' y' k' = z at *
  go_enter Try.func12, Try.ntmps12
  go_wp2_with fail
  refine (CV.out _ (HR.out.below HB.out)).mono ?_
  rintro e w1 ⟨rfl, hb1⟩
  have HB1 := Lib.hid (HB.out.trans (hb1.mono HB.out.size))
  have HXB1 := Lib.hid (HXB.out.below hb1)
  have HXR1 := Lib.hid (HXR.out.below hb1)
  have d0 := HXB1.out.at 0
  have d1 := HXB1.out.at 1
  have d2 := HXB1.out.at 2
  simp only [List.getElem?_cons_zero, List.getElem?_cons_succ] at d0 d1 d2
  clear hb1 c1
  go_wp2_with fail
  refine (CB.out _).mono ?_
  rintro e w2 ⟨rfl, hb2⟩
  have HB2 := Lib.hid (HB1.out.trans (hb2.mono HB1.out.size))
  have HXB2 := Lib.hid (HXB1.out.below hb2)
  have c1 := (HXR1.out.below hb2).one.1
  have d0 := HXB2.out.at 0
  have d1 := HXB2.out.at 1
  have d2 := HXB2.out.at 2
  simp only [List.getElem?_cons_zero, List.getElem?_cons_succ] at d0 d1 d2
  clear hb2
  go_wp2_with fail
  refine (CW.out _ (HR.out.below HB2.out)).mono ?_
  rintro e w3 ⟨rfl, hb3⟩
  have HB3 := Lib.hid (HB2.out.trans (hb3.mono HB2.out.size))
  clear hb3 c1 d0 d1 d2
  go_wp2_with fail
  go_ret2
  exact ⟨by simp, HB3.out⟩
set_option maxRecDepth 100000 in
set_option maxHeartbeats 4000000 in
theorem boxFits_spec (X : List Int) (n : Nat) (a : Option Addr) (c : Nat) (x y k : Int) (w : World) (h : RdI w a n X) (hn : n ≤ 1048577) :
    Calls Try.prog 10 #[.agg #[.slice a n c], .agg #[.int .i64 x, .int .i64 y, .int .i64 k]] w fun e w' => e = .returned (.tuple #[.bool (goodR X && (boxB x y k && fitB X x y k)), .bool (goodR X && boxB x y k)]) ∧ Below w.heap.size w w' := by
  have XR := (BoxF.new w [.slice a n c] 34).alloc (.cells #[.int .i64 x, .int .i64 y, .int .i64 k] 25 (0, 0))
  have XB := BoxF.new (w.alloc (.cells #[.slice a n c] 34 (0, 0))) [.int .i64 x, .int .i64 y, .int .i64 k] 25
  have hb := ((Below.refl _ w).alloc (Nat.le_refl _) (.cells #[.slice a n c] 34 (0, 0))).alloc (by simp) (.cells #[.int .i64 x, .int .i64 y, .int .i64 k] 25 (0, 0))
  simp only [World.size_alloc] at XB
  have c1 := XR.one.1
  have HXR := Lib.hid XR
  have HXB := Lib.hid XB
  have HB := Lib.hid hb
  have HR := Lib.hid h
  have CV := Lib.hid (fun W (h : RdI W a n X) => good_spec X n a c W h hn)
  have CB := Lib.hid (fun W => l11Box_any x y k W)
  clear h XR XB hb
  obtain ⟨g, hg⟩ : ∃ g, goodR X = g := ⟨_, rfl⟩
  obtain ⟨v, hv⟩ : ∃ v, boxB x y k = v := ⟨_, rfl⟩
  rw [hg] at CV ⊢
  rw [hv] at CB ⊢
  cases g
  · clear hg hv
    go_enter Try.func10, Try.ntmps10
    go_wp2_with fail
    refine (CV.out _ (HR.out.below HB.out)).mono ?_
    rintro e w1 ⟨rfl, hb1⟩
    have HB1 := Lib.hid (HB.out.trans (hb1.mono HB.out.size))
    clear hb1 c1
    go_wp2_with fail
    go_ret2
    exact ⟨rfl, HB1.out⟩
  cases v
  · clear hg hv
    go_enter Try.func10, Try.ntmps10
    go_wp2_with fail
    refine (CV.out _ (HR.out.below HB.out)).mono ?_
    rintro e w1 ⟨rfl, hb1⟩
    have HB1 := Lib.hid (HB.out.trans (hb1.mono HB.out.size))
    have XB1 := HXB.out.below hb1
    have d0 := XB1.at 0
    have d1 := XB1.at 1
    have d2 := XB1.at 2
    simp only [List.getElem?_cons_zero, List.getElem?_cons_succ] at d0 d1 d2
    clear hb1 c1 XB1
    go_wp2_with fail
    refine (CB.out _).mono ?_
    rintro e w2 ⟨rfl, hb2⟩
    have HB2 := Lib.hid (HB1.out.trans (hb2.mono HB1.out.size))
    clear hb2 d0 d1 d2
    go_wp2_with fail
    go_ret2
    exact ⟨rfl, HB2.out⟩
  obtain ⟨V, rfl, hV⟩ := good_out hg
  have h24 : n = 24 := by rw [← HR.out.1]; exact goodR_len hg
  subst h24
  obtain ⟨x', y', k', rfl, rfl, rfl, q1, q2, q3, q4, _⟩ := boxB_yes hv
  rw [fitB_rows V q4]
  have CW0 := fun W (h : RdI W a 24 (rowsOfR V)) => l11Whole_any V x' y' k' a c W h (fun j hj => (hV j hj).1) (by omega) (by omega) q2
  rw [whole_good hV q4] at CW0
  have CW := Lib.hid CW0
  clear CW0
  clear hg hv hV
  generalize whole (tb V) x' y' k' = z at *
  go_enter Try.func10, Try.ntmps10
  go_wp2_with fail
  refine (CV.out _ (HR.out.below HB.out)).mono ?_
  rintro e w1 ⟨rfl, hb1⟩
  have HB1 := Lib.hid (HB.out.trans (hb1.mono HB.out.size))
  have HXB1 := Lib.hid (HXB.out.below hb1)
  have HXR1 := Lib.hid (HXR.out.below hb1)
  have d0 := HXB1.out.at 0
  have d1 := HXB1.out.at 1
  have d2 := HXB1.out.at 2
  simp only [List.getElem?_cons_zero, List.getElem?_cons_succ] at d0 d1 d2
  clear hb1 c1
  go_wp2_with fail
  refine (CB.out _).mono ?_
  rintro e w2 ⟨rfl, hb2⟩
  have HB2 := Lib.hid (HB1.out.trans (hb2.mono HB1.out.size))
  have HXB2 := Lib.hid (HXB1.out.below hb2)
  have c1 := (HXR1.out.below hb2).one.1
  have d0 := HXB2.out.at 0
  have d1 := HXB2.out.at 1
  have d2 := HXB2.out.at 2
  simp only [List.getElem?_cons_zero, List.getElem?_cons_succ] at d0 d1 d2
  clear hb2
  go_wp2_with fail
  refine (CW.out _ (HR.out.below HB2.out)).mono ?_
  rintro e w3 ⟨rfl, hb3⟩
  have HB3 := Lib.hid (HB2.out.trans (hb3.mono HB2.out.size))
  clear hb3 c1 d0 d1 d2
  go_wp2_with fail
  go_ret2
  exact ⟨by simp, HB3.out⟩
end Go.Proofs.Ythapidnjioindaa
