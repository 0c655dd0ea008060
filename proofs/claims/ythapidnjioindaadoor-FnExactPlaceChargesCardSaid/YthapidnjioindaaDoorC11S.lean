/- Contracts: ArmsOrdinary and GroundOf of both sides. -/
import Derived.Test.YthapidnjioindaaDoorC11R
import Derived.Test.YthapidnjioindaaDoorK2
import Derived.Test.YthapidnjioindaaDoorK6
import Derived.Test.YthapidnjioindaaDoorKJE
import Derived.Test.YthapidnjioindaaDoorKIE
import Derived.Deep.MidRow
import Derived.Deep.DeepCutAuto
import Derived.Deep.RegionHeld3
namespace Go.Proofs.YthapidnjioindaaDoor
open Go.RowKit

theorem aList {P : Program} {ops : Array Oper} {l : List Oper} {a : Act} {W : World} {Q : Exit → Act → World → Prop} (h : wpList P ops Q l a W) : wpList P ops Q l a W := h
theorem sizeA15 : (Tryd.prog.info? 60).map (·.size) = some 15 := by kernel_rfl
theorem rangeB {w : World} {b : Nat} {L : List Value} {t : TypeId} (h : BoxF w b L t) : w.rangeAt b 0 L := fun j _ hv => by rw [Nat.zero_add]; exact (h.at j).trans hv
theorem ldA (s D : Nat) (L : List Value) {ops : Array Oper} {rest : List Oper} {op : Oper} {a : Act} {W : World} {Q : Exit → Act → World → Prop} (hgd : op.guard = none) (ho : op.op = .load 60 (.tmp s)) (hx : a.eval (.tmp s) = .pointer (some ⟨D, 0, none⟩)) (hl : L.length = 15) (hc : W.rangeAt D 0 L)
    (h : wpList Tryd.prog ops Q rest (a.put op.dst (.agg L.toArray)) W) : wpList Tryd.prog ops Q (op :: rest) a W :=
  wpList_load_mid hgd 60 _ ho D 0 hx L _ hc Tryd.underlying60 rfl (by rw [hl]; exact sizeA15) h
theorem sizeL15 : (Tryd.prog.info? 54).map (·.size) = some 15 := by kernel_rfl
theorem ldL (s D : Nat) (L : List Value) {ops : Array Oper} {rest : List Oper} {op : Oper} {a : Act} {W : World} {Q : Exit → Act → World → Prop} (hgd : op.guard = none) (ho : op.op = .load 54 (.tmp s)) (hx : a.eval (.tmp s) = .pointer (some ⟨D, 0, none⟩)) (hl : L.length = 15) (hc : W.rangeAt D 0 L)
    (h : wpList Tryd.prog ops Q rest (a.put op.dst (.agg L.toArray)) W) : wpList Tryd.prog ops Q (op :: rest) a W :=
  wpList_load_mid hgd 54 _ ho D 0 hx L _ hc Tryd.underlying54 rfl (by rw [hl]; exact sizeL15) h
theorem aOk_line {i0 i1 i2 i3 i4 i5 i6 i7 i8 i9 i10 i11 i12 i13 i14 : Int} (h : aOkB i0 i1 i2 i3 i4 i5 i6 i7 i8 i9 i10 i11 i12 i13 i14 = true) : (0 ≤ i4 ∧ i4 ≤ 7) ∧ (0 ≤ i5 ∧ i5 ≤ 4) := by
  unfold aOkB at h
  simp only [Bool.and_eq_true, decide_eq_true_eq] at h
  obtain ⟨_, ho, _, h2⟩ := h
  refine ⟨ho, ?_⟩
  split at h2
  · simp only [Bool.and_eq_true, beq_iff_eq] at h2
    omega
  · simp only [Bool.and_eq_true, decide_eq_true_eq] at h2
    exact h2.1
theorem lnOrd_none (l : Int) (x y : Nat) : lnOrd 0 l x y = false := by
  unfold lnOrd ordS
  simp
theorem partO_ord {o : Int} (ho : 0 ≤ o) (l : Int) : (fun i j => lnOrd o l i j) = partO false o l := by
  funext i j
  unfold partO
  rcases (show o = 0 ∨ 0 < o by omega) with rfl | h
  · rw [lnOrd_none]; rfl
  · rw [decide_eq_true h]; simp
theorem comb_less (P : Nat → Nat → Bool) : combL 3 (rowsOfR shN) (rowsOfR (regN P)) = rowsOfR (regN (fun i j => !P i j)) := by
  unfold combL rowsOfR
  apply List.map_congr_left
  intro y hy
  rw [List.mem_range] at hy
  have e1 := rowsOfR_getD shN hy
  have e2 := rowsOfR_getD (regN P) hy
  unfold rowsOfR at e1 e2
  rw [e1, e2]
  show bits .andNot .i64 _ _ = _
  have l1 := shN_lt y
  have l2 := regN_lt P y
  rw [i64_andNot_nat _ _ (by omega) (by omega)]
  congr 1
  apply Nat.eq_of_testBit_eq
  intro x
  rw [lessN_bit (by omega) (by omega), regN_bit, regN_bit]
  unfold shN
  rw [rowN_bit]
  cases decide (x < 20) <;> cases shB x y <;> cases P x y <;> rfl
def ansRows (r gr : Bool) (o l : Int) : List Int := if r = true then rowsOfR (regN (partO gr o l)) else []
def ansLen (r : Bool) : Nat := if r = true then 24 else 0
set_option maxRecDepth 100000 in
set_option maxHeartbeats 8000000 in
theorem armsOrd_spec (i0 i1 i2 i3 i4 i5 i6 i7 i8 i9 i10 i11 i12 i13 i14 : Int) (w : World) (r : Bool) (hr : aOkB i0 i1 i2 i3 i4 i5 i6 i7 i8 i9 i10 i11 i12 i13 i14 = r) : Calls Tryd.prog 27 #[.agg #[.int .i64 i0, .int .i64 i1, .int .i64 i2, .int .i64 i3, .int .i64 i4, .int .i64 i5, .int .i64 i6, .int .i64 i7, .int .i64 i8, .int .i64 i9, .int .i64 i10, .int .i64 i11, .int .i64 i12, .int .i64 i13, .int .i64 i14]] w (AnsRB w (ansRows r false i4 i5) (ansLen r) r) := by
  have CG := Lib.hid (fun W => l5Good_any i0 i1 i2 i3 i4 i5 i6 i7 i8 i9 i10 i11 i12 i13 i14 W r hr)
  have XA0 := (BoxF.new w [.int .i64 i0, .int .i64 i1, .int .i64 i2, .int .i64 i3, .int .i64 i4, .int .i64 i5, .int .i64 i6, .int .i64 i7, .int .i64 i8, .int .i64 i9, .int .i64 i10, .int .i64 i11, .int .i64 i12, .int .i64 i13, .int .i64 i14] 60).alloc (.cells #[.slice none 0 0] 26 (0, 0))
  have X00 := BoxF.new (w.alloc (.cells #[.int .i64 i0, .int .i64 i1, .int .i64 i2, .int .i64 i3, .int .i64 i4, .int .i64 i5, .int .i64 i6, .int .i64 i7, .int .i64 i8, .int .i64 i9, .int .i64 i10, .int .i64 i11, .int .i64 i12, .int .i64 i13, .int .i64 i14] 60 (0, 0))) [.slice none 0 0] 26
  have hB0 := ((Below.refl w.heap.size w).alloc (Nat.le_refl _) (.cells #[.int .i64 i0, .int .i64 i1, .int .i64 i2, .int .i64 i3, .int .i64 i4, .int .i64 i5, .int .i64 i6, .int .i64 i7, .int .i64 i8, .int .i64 i9, .int .i64 i10, .int .i64 i11, .int .i64 i12, .int .i64 i13, .int .i64 i14] 60 (0, 0))).alloc (by simp) (.cells #[.slice none 0 0] 26 (0, 0))
  simp only [World.size_alloc] at X00
  have r0 := rangeB XA0
  have XA := Lib.hid XA0
  have X0 := Lib.hid X00
  have HB0 := Lib.hid hB0
  clear XA0 X00 hB0
  cases r
  · clear hr
    go_enter Tryd.func27, Tryd.ntmps27
    go_wp2_with (with_reducible refine aList ?_; refine ldA 1 w.heap.size [.int .i64 i0, .int .i64 i1, .int .i64 i2, .int .i64 i3, .int .i64 i4, .int .i64 i5, .int .i64 i6, .int .i64 i7, .int .i64 i8, .int .i64 i9, .int .i64 i10, .int .i64 i11, .int .i64 i12, .int .i64 i13, .int .i64 i14] rfl rfl rfl rfl ?_ ?_; exact r0)
    refine (CG.out _).mono ?_
    rintro e w1 ⟨rfl, hb⟩
    have X1 := Lib.hid (X0.out.below hb)
    have HB1 := Lib.hid (HB0.out.trans (hb.mono HB0.out.size))
    clear hb X0 HB0 r0
    obtain ⟨c0, f0⟩ := X1.out.one
    have hf0 := f0 0
    have HBN := HB1.out.setCell (p := ⟨w.heap.size + 1, 0, none⟩) (by show w.heap.size ≤ w.heap.size + 1; omega) (.slice none 0 0)
    have Z9 := (X1.out.set 0 (.slice none 0 0)).one.1
    go_wp2_with fail
    exact bodyPost_ret (v := .tuple #[.agg #[.slice none 0 0], .bool false]) (by simp [results, Tryd.results27, go_sem, Z9]) rfl ⟨_, _, rfl, ownI_nil _ _, HBN⟩
  · have hol := aOk_line hr
    have CR := Lib.hid (fun W => l11Region_any i0 i1 i2 i3 i4 i5 i6 i7 i8 i9 i10 i11 i12 i13 i14 false W hol.1 hol.2)
    clear hr hol
    go_enter Tryd.func27, Tryd.ntmps27
    go_wp2_with (with_reducible refine aList ?_; refine ldA 1 w.heap.size [.int .i64 i0, .int .i64 i1, .int .i64 i2, .int .i64 i3, .int .i64 i4, .int .i64 i5, .int .i64 i6, .int .i64 i7, .int .i64 i8, .int .i64 i9, .int .i64 i10, .int .i64 i11, .int .i64 i12, .int .i64 i13, .int .i64 i14] rfl rfl rfl rfl ?_ ?_; exact r0)
    refine (CG.out _).mono ?_
    rintro e w1 ⟨rfl, hb⟩
    have X1 := Lib.hid (X0.out.below hb)
    have HB1 := Lib.hid (HB0.out.trans (hb.mono HB0.out.size))
    have r0 := rangeB (XA.out.below hb)
    have hs1 := hb.size
    simp only [World.size_alloc] at hs1
    clear hb X0 HB0
    go_wp2_with (with_reducible refine aList ?_; refine ldA 1 w.heap.size [.int .i64 i0, .int .i64 i1, .int .i64 i2, .int .i64 i3, .int .i64 i4, .int .i64 i5, .int .i64 i6, .int .i64 i7, .int .i64 i8, .int .i64 i9, .int .i64 i10, .int .i64 i11, .int .i64 i12, .int .i64 i13, .int .i64 i14] rfl rfl rfl rfl ?_ ?_; exact r0)
    refine (CR.out _).mono ?_
    rintro e w2 ⟨g, rfl, ho, hb⟩
    have hgg := (World.ownsRow.lt ho g rfl).1
    have HO2 := Lib.hid (OwnI.low ho HB1.out.size)
    have X2 := Lib.hid (X1.out.below hb)
    have HB2 := Lib.hid (HB1.out.trans (hb.mono HB1.out.size))
    clear ho hb X1 HB1 r0
    obtain ⟨c0, f0⟩ := X2.out.one
    have hf0 := f0 0
    have Z9 := (X2.out.set 0 (.slice (some ⟨g, 0, none⟩) 24 24)).one.1
    have HG := grownBy_set w2 (w.heap.size + 1) 0 (.slice (some ⟨g, 0, none⟩) 24 24)
    have HO9 := Lib.hid (OwnI.kept HO2.out HG (by right; intro e; simp [Value.ownBlock] at e; omega))
    have HB9 := Lib.hid (HB2.out.grown HG HB2.out.size (fun q hq => by cases hq; omega))
    clear HG f0
    go_wp2_with fail
    exact bodyPost_ret (v := .tuple #[.agg #[(.slice (some ⟨g, 0, none⟩) 24 24)], .bool true]) (by simp [results, Tryd.results27, go_sem, Z9]) rfl ⟨_, _, rfl, HO9.out, HB9.out⟩
set_option maxRecDepth 100000 in
set_option maxHeartbeats 8000000 in
theorem ground_spec (i0 i1 i2 i3 i4 i5 i6 i7 i8 i9 i10 i11 i12 i13 i14 : Int) (w : World) (r : Bool) (hr : aOkB i0 i1 i2 i3 i4 i5 i6 i7 i8 i9 i10 i11 i12 i13 i14 = r) : Calls Tryd.prog 31 #[.agg #[.int .i64 i0, .int .i64 i1, .int .i64 i2, .int .i64 i3, .int .i64 i4, .int .i64 i5, .int .i64 i6, .int .i64 i7, .int .i64 i8, .int .i64 i9, .int .i64 i10, .int .i64 i11, .int .i64 i12, .int .i64 i13, .int .i64 i14]] w (AnsRB w (ansRows r true i4 i5) (ansLen r) r) := by
  have CG := Lib.hid (fun W => l5Good_any i0 i1 i2 i3 i4 i5 i6 i7 i8 i9 i10 i11 i12 i13 i14 W r hr)
  have XA0 := (BoxF.new w [.int .i64 i0, .int .i64 i1, .int .i64 i2, .int .i64 i3, .int .i64 i4, .int .i64 i5, .int .i64 i6, .int .i64 i7, .int .i64 i8, .int .i64 i9, .int .i64 i10, .int .i64 i11, .int .i64 i12, .int .i64 i13, .int .i64 i14] 60).alloc (.cells #[.slice none 0 0] 26 (0, 0))
  have X00 := BoxF.new (w.alloc (.cells #[.int .i64 i0, .int .i64 i1, .int .i64 i2, .int .i64 i3, .int .i64 i4, .int .i64 i5, .int .i64 i6, .int .i64 i7, .int .i64 i8, .int .i64 i9, .int .i64 i10, .int .i64 i11, .int .i64 i12, .int .i64 i13, .int .i64 i14] 60 (0, 0))) [.slice none 0 0] 26
  have hB0 := ((Below.refl w.heap.size w).alloc (Nat.le_refl _) (.cells #[.int .i64 i0, .int .i64 i1, .int .i64 i2, .int .i64 i3, .int .i64 i4, .int .i64 i5, .int .i64 i6, .int .i64 i7, .int .i64 i8, .int .i64 i9, .int .i64 i10, .int .i64 i11, .int .i64 i12, .int .i64 i13, .int .i64 i14] 60 (0, 0))).alloc (by simp) (.cells #[.slice none 0 0] 26 (0, 0))
  simp only [World.size_alloc] at X00
  have r0 := rangeB XA0
  have XA := Lib.hid XA0
  have X0 := Lib.hid X00
  have HB0 := Lib.hid hB0
  clear XA0 X00 hB0
  cases r
  · clear hr
    go_enter Tryd.func31, Tryd.ntmps31
    go_wp2_with (with_reducible refine aList ?_; refine ldA 1 w.heap.size [.int .i64 i0, .int .i64 i1, .int .i64 i2, .int .i64 i3, .int .i64 i4, .int .i64 i5, .int .i64 i6, .int .i64 i7, .int .i64 i8, .int .i64 i9, .int .i64 i10, .int .i64 i11, .int .i64 i12, .int .i64 i13, .int .i64 i14] rfl rfl rfl rfl ?_ ?_; exact r0)
    refine (CG.out _).mono ?_
    rintro e w1 ⟨rfl, hb⟩
    have X1 := Lib.hid (X0.out.below hb)
    have HB1 := Lib.hid (HB0.out.trans (hb.mono HB0.out.size))
    clear hb X0 HB0 r0
    obtain ⟨c0, f0⟩ := X1.out.one
    have hf0 := f0 0
    have HBN := HB1.out.setCell (p := ⟨w.heap.size + 1, 0, none⟩) (by show w.heap.size ≤ w.heap.size + 1; omega) (.slice none 0 0)
    have Z9 := (X1.out.set 0 (.slice none 0 0)).one.1
    go_wp2_with fail
    exact bodyPost_ret (v := .tuple #[.agg #[.slice none 0 0], .bool false]) (by simp [results, Tryd.results31, go_sem, Z9]) rfl ⟨_, _, rfl, ownI_nil _ _, HBN⟩
  · have hol := aOk_line hr
    have CR := Lib.hid (fun W => l11Region_any i0 i1 i2 i3 i4 i5 i6 i7 i8 i9 i10 i11 i12 i13 i14 true W hol.1 hol.2)
    clear hr hol
    go_enter Tryd.func31, Tryd.ntmps31
    go_wp2_with (with_reducible refine aList ?_; refine ldA 1 w.heap.size [.int .i64 i0, .int .i64 i1, .int .i64 i2, .int .i64 i3, .int .i64 i4, .int .i64 i5, .int .i64 i6, .int .i64 i7, .int .i64 i8, .int .i64 i9, .int .i64 i10, .int .i64 i11, .int .i64 i12, .int .i64 i13, .int .i64 i14] rfl rfl rfl rfl ?_ ?_; exact r0)
    refine (CG.out _).mono ?_
    rintro e w1 ⟨rfl, hb⟩
    have X1 := Lib.hid (X0.out.below hb)
    have HB1 := Lib.hid (HB0.out.trans (hb.mono HB0.out.size))
    have r0 := rangeB (XA.out.below hb)
    have hs1 := hb.size
    simp only [World.size_alloc] at hs1
    clear hb X0 HB0
    go_wp2_with (with_reducible refine aList ?_; refine ldA 1 w.heap.size [.int .i64 i0, .int .i64 i1, .int .i64 i2, .int .i64 i3, .int .i64 i4, .int .i64 i5, .int .i64 i6, .int .i64 i7, .int .i64 i8, .int .i64 i9, .int .i64 i10, .int .i64 i11, .int .i64 i12, .int .i64 i13, .int .i64 i14] rfl rfl rfl rfl ?_ ?_; exact r0)
    refine (CR.out _).mono ?_
    rintro e w2 ⟨g, rfl, ho, hb⟩
    have hgg := (World.ownsRow.lt ho g rfl).1
    have HO2 := Lib.hid (OwnI.low ho HB1.out.size)
    have X2 := Lib.hid (X1.out.below hb)
    have HB2 := Lib.hid (HB1.out.trans (hb.mono HB1.out.size))
    clear ho hb X1 HB1 r0
    obtain ⟨c0, f0⟩ := X2.out.one
    have hf0 := f0 0
    have Z9 := (X2.out.set 0 (.slice (some ⟨g, 0, none⟩) 24 24)).one.1
    have HG := grownBy_set w2 (w.heap.size + 1) 0 (.slice (some ⟨g, 0, none⟩) 24 24)
    have HO9 := Lib.hid (OwnI.kept HO2.out HG (by right; intro e; simp [Value.ownBlock] at e; omega))
    have HB9 := Lib.hid (HB2.out.grown HG HB2.out.size (fun q hq => by cases hq; omega))
    clear HG f0
    go_wp2_with fail
    exact bodyPost_ret (v := .tuple #[.agg #[(.slice (some ⟨g, 0, none⟩) 24 24)], .bool true]) (by simp [results, Tryd.results31, go_sem, Z9]) rfl ⟨_, _, rfl, HO9.out, HB9.out⟩
set_option maxRecDepth 100000 in
set_option maxHeartbeats 8000000 in
theorem armsOrd_impl (i0 i1 i2 i3 i4 i5 i6 i7 i8 i9 i10 i11 i12 i13 i14 : Int) (w : World) (r : Bool) (hr : aOkB i0 i1 i2 i3 i4 i5 i6 i7 i8 i9 i10 i11 i12 i13 i14 = r) (hA : AttsLie w) (hT : OffsLie w) : Calls Tryd.prog 29 #[.agg #[.int .i64 i0, .int .i64 i1, .int .i64 i2, .int .i64 i3, .int .i64 i4, .int .i64 i5, .int .i64 i6, .int .i64 i7, .int .i64 i8, .int .i64 i9, .int .i64 i10, .int .i64 i11, .int .i64 i12, .int .i64 i13, .int .i64 i14]] w (AnsRB w (ansRows r false i4 i5) (ansLen r) r) := by
  have XA0 := (BoxF.new w [.int .i64 i0, .int .i64 i1, .int .i64 i2, .int .i64 i3, .int .i64 i4, .int .i64 i5, .int .i64 i6, .int .i64 i7, .int .i64 i8, .int .i64 i9, .int .i64 i10, .int .i64 i11, .int .i64 i12, .int .i64 i13, .int .i64 i14] 60).alloc (.cells #[.slice none 0 0] 26 (0, 0))
  have X00 := BoxF.new (w.alloc (.cells #[.int .i64 i0, .int .i64 i1, .int .i64 i2, .int .i64 i3, .int .i64 i4, .int .i64 i5, .int .i64 i6, .int .i64 i7, .int .i64 i8, .int .i64 i9, .int .i64 i10, .int .i64 i11, .int .i64 i12, .int .i64 i13, .int .i64 i14] 60 (0, 0))) [.slice none 0 0] 26
  have hB0 := ((Below.refl w.heap.size w).alloc (Nat.le_refl _) (.cells #[.int .i64 i0, .int .i64 i1, .int .i64 i2, .int .i64 i3, .int .i64 i4, .int .i64 i5, .int .i64 i6, .int .i64 i7, .int .i64 i8, .int .i64 i9, .int .i64 i10, .int .i64 i11, .int .i64 i12, .int .i64 i13, .int .i64 i14] 60 (0, 0))).alloc (by simp) (.cells #[.slice none 0 0] 26 (0, 0))
  simp only [World.size_alloc] at X00
  have r0 := rangeB XA0
  have XA := Lib.hid XA0
  have X0 := Lib.hid X00
  have HB0 := Lib.hid hB0
  clear XA0 X00 hB0
  have CG := Lib.hid (validArms_impl i0 i1 i2 i3 i4 i5 i6 i7 i8 i9 i10 i11 i12 i13 i14 _ r hr (hA.below HB0.out))
  cases r
  · clear hr hA hT
    go_enter Tryd.func29, Tryd.ntmps29
    go_wp2_with (with_reducible refine aList ?_; refine ldA 1 w.heap.size [.int .i64 i0, .int .i64 i1, .int .i64 i2, .int .i64 i3, .int .i64 i4, .int .i64 i5, .int .i64 i6, .int .i64 i7, .int .i64 i8, .int .i64 i9, .int .i64 i10, .int .i64 i11, .int .i64 i12, .int .i64 i13, .int .i64 i14] rfl rfl rfl rfl ?_ ?_; exact r0)
    refine CG.out.mono ?_
    rintro e w1 ⟨rfl, hb⟩
    have X1 := Lib.hid (X0.out.below hb)
    have HB1 := Lib.hid (HB0.out.trans (hb.mono HB0.out.size))
    clear hb X0 HB0 r0
    obtain ⟨c0, f0⟩ := X1.out.one
    have hf0 := f0 0
    have HBN := HB1.out.setCell (p := ⟨w.heap.size + 1, 0, none⟩) (by show w.heap.size ≤ w.heap.size + 1; omega) (.slice none 0 0)
    have Z9 := (X1.out.set 0 (.slice none 0 0)).one.1
    go_wp2_with fail
    exact bodyPost_ret (v := .tuple #[.agg #[.slice none 0 0], .bool false]) (by simp [results, Tryd.results29, go_sem, Z9]) rfl ⟨_, _, rfl, ownI_nil _ _, HBN⟩
  · have hol := aOk_line hr
    have HT := Lib.hid hT
    have CR0 := fun W (h : OffsLie W) => lordc_impl i4 i5 W h hol.1 hol.2
    rw [partO_ord hol.1.1] at CR0
    have CR := Lib.hid CR0
    clear hr hol hA hT CR0
    go_enter Tryd.func29, Tryd.ntmps29
    go_wp2_with (with_reducible refine aList ?_; refine ldA 1 w.heap.size [.int .i64 i0, .int .i64 i1, .int .i64 i2, .int .i64 i3, .int .i64 i4, .int .i64 i5, .int .i64 i6, .int .i64 i7, .int .i64 i8, .int .i64 i9, .int .i64 i10, .int .i64 i11, .int .i64 i12, .int .i64 i13, .int .i64 i14] rfl rfl rfl rfl ?_ ?_; exact r0)
    refine CG.out.mono ?_
    rintro e w1 ⟨rfl, hb⟩
    have X1 := Lib.hid (X0.out.below hb)
    have HB1 := Lib.hid (HB0.out.trans (hb.mono HB0.out.size))
    have XA1 := XA.out.below hb
    have d4 := XA1.at 4
    have d5 := XA1.at 5
    simp only [List.getElem?_cons_zero, List.getElem?_cons_succ] at d4 d5
    have hs1 := hb.size
    simp only [World.size_alloc] at hs1
    clear hb X0 HB0 XA1 r0
    go_wp2_with fail
    refine (CR.out _ (HT.out.below HB1.out)).mono ?_
    rintro e w2 ⟨a_, c_, rfl, ho, hb⟩
    have hgg := fun q hq => (World.ownsRow.lt ho q hq).1
    have HO2 := Lib.hid (OwnI.low ho HB1.out.size)
    have X2 := Lib.hid (X1.out.below hb)
    have HB2 := Lib.hid (HB1.out.trans (hb.mono HB1.out.size))
    clear ho hb X1 HB1 d4 d5
    obtain ⟨c0, f0⟩ := X2.out.one
    have hf0 := f0 0
    have Z9 := (X2.out.set 0 (.slice a_ 24 c_)).one.1
    have HG := grownBy_set w2 (w.heap.size + 1) 0 (.slice a_ 24 c_)
    have HO9 := Lib.hid (OwnI.kept HO2.out HG (by right; intro e; have := hgg _ e; omega))
    have HB9 := Lib.hid (HB2.out.grown HG HB2.out.size (fun q hq => by cases hq; omega))
    clear HG f0
    go_wp2_with fail
    exact bodyPost_ret (v := .tuple #[.agg #[(.slice a_ 24 c_)], .bool true]) (by simp [results, Tryd.results29, go_sem, Z9]) rfl ⟨_, _, rfl, HO9.out, HB9.out⟩
set_option maxRecDepth 100000 in
set_option maxHeartbeats 8000000 in
theorem ground_impl (i0 i1 i2 i3 i4 i5 i6 i7 i8 i9 i10 i11 i12 i13 i14 : Int) (w : World) (r : Bool) (hr : aOkB i0 i1 i2 i3 i4 i5 i6 i7 i8 i9 i10 i11 i12 i13 i14 = r) (hA : AttsLie w) (hT : OffsLie w) : Calls Tryd.prog 32 #[.agg #[.int .i64 i0, .int .i64 i1, .int .i64 i2, .int .i64 i3, .int .i64 i4, .int .i64 i5, .int .i64 i6, .int .i64 i7, .int .i64 i8, .int .i64 i9, .int .i64 i10, .int .i64 i11, .int .i64 i12, .int .i64 i13, .int .i64 i14]] w (AnsRB w (ansRows r true i4 i5) (ansLen r) r) := by
  have XA0 := (BoxF.new w [.int .i64 i0, .int .i64 i1, .int .i64 i2, .int .i64 i3, .int .i64 i4, .int .i64 i5, .int .i64 i6, .int .i64 i7, .int .i64 i8, .int .i64 i9, .int .i64 i10, .int .i64 i11, .int .i64 i12, .int .i64 i13, .int .i64 i14] 60).alloc (.cells #[.slice none 0 0] 26 (0, 0))
  have X00 := BoxF.new (w.alloc (.cells #[.int .i64 i0, .int .i64 i1, .int .i64 i2, .int .i64 i3, .int .i64 i4, .int .i64 i5, .int .i64 i6, .int .i64 i7, .int .i64 i8, .int .i64 i9, .int .i64 i10, .int .i64 i11, .int .i64 i12, .int .i64 i13, .int .i64 i14] 60 (0, 0))) [.slice none 0 0] 26
  have hB0 := ((Below.refl w.heap.size w).alloc (Nat.le_refl _) (.cells #[.int .i64 i0, .int .i64 i1, .int .i64 i2, .int .i64 i3, .int .i64 i4, .int .i64 i5, .int .i64 i6, .int .i64 i7, .int .i64 i8, .int .i64 i9, .int .i64 i10, .int .i64 i11, .int .i64 i12, .int .i64 i13, .int .i64 i14] 60 (0, 0))).alloc (by simp) (.cells #[.slice none 0 0] 26 (0, 0))
  simp only [World.size_alloc] at X00
  have r0 := rangeB XA0
  have XA := Lib.hid XA0
  have X0 := Lib.hid X00
  have HB0 := Lib.hid hB0
  clear XA0 X00 hB0
  have CO := Lib.hid (armsOrd_impl i0 i1 i2 i3 i4 i5 i6 i7 i8 i9 i10 i11 i12 i13 i14 _ r hr (hA.below HB0.out) (hT.below HB0.out))
  clear hA hT
  cases r
  · clear hr
    go_enter Tryd.func32, Tryd.ntmps32
    go_wp2_with (with_reducible refine aList ?_; refine ldA 1 w.heap.size [.int .i64 i0, .int .i64 i1, .int .i64 i2, .int .i64 i3, .int .i64 i4, .int .i64 i5, .int .i64 i6, .int .i64 i7, .int .i64 i8, .int .i64 i9, .int .i64 i10, .int .i64 i11, .int .i64 i12, .int .i64 i13, .int .i64 i14] rfl rfl rfl rfl ?_ ?_; exact r0)
    refine CO.out.mono ?_
    rintro e w1 ⟨a_, c_, rfl, _, hb⟩
    have hz1 := hb.size
    simp only [World.size_alloc] at hz1
    have X1 := Lib.hid ((X0.out.below hb).alloc (.cells #[.slice a_ (ansLen false) c_] 26 (0, 0)))
    have HB1_ := HB0.out.trans (hb.mono HB0.out.size)
    have HB1 := Lib.hid (HB1_.alloc HB1_.size (.cells #[.slice a_ (ansLen false) c_] 26 (0, 0)))
    clear hb X0 HB0 r0 HB1_
    obtain ⟨c0, f0⟩ := X1.out.one
    have hf0 := f0 0
    have HBN := HB1.out.setCell (p := ⟨w.heap.size + 1, 0, none⟩) (by show w.heap.size ≤ w.heap.size + 1; omega) (.slice none 0 0)
    have Z9 := (X1.out.set 0 (.slice none 0 0)).one.1
    go_wp2_with fail
    exact bodyPost_ret (v := .tuple #[.agg #[.slice none 0 0], .bool false]) (by simp [results, Tryd.results32, go_sem, Z9]) rfl ⟨_, _, rfl, ownI_nil _ _, HBN⟩
  · clear hr
    obtain ⟨P, hP⟩ : ∃ P, partO false i4 i5 = P := ⟨_, rfl⟩
    have hQ : combL 3 (rowsOfR shN) (rowsOfR (regN P)) = rowsOfR (regN (partO true i4 i5)) := by
      rw [comb_less, ← hP]
      congr 2
      funext i j
      unfold partO
      cases (decide (0 < i4) && lnOrd i4 i5 i j) <;> rfl
    have e24 : ansLen true = 24 := rfl
    have eX : ansRows true false i4 i5 = rowsOfR (regN P) := by rw [← hP]; rfl
    have eY : ansRows true true i4 i5 = rowsOfR (regN (partO true i4 i5)) := rfl
    rw [e24, eX] at CO
    rw [e24, eY]
    have CC0 := fun W a2 c2 a1 (h1 : RdI W a1 24 (rowsOfR shN)) (h2 : RdI W a2 24 (rowsOfR (regN P))) => comb_impl (rowsOfR shN) (rowsOfR (regN P)) 3 24 c2 a1 a2 W h1 h2 (good_wf good_sh) (good_wf (good_reg P)) good_sh (good_reg P) (by omega) (by omega)
    rw [hQ] at CC0
    have CC := Lib.hid (fun a1 W c2 a2 h1 h2 => CC0 W a2 c2 a1 h1 h2)
    clear hP hQ e24 eX eY CC0
    generalize rowsOfR (regN (partO true i4 i5)) = Y at *
    generalize rowsOfR (regN P) = X at *
    go_enter Tryd.func32, Tryd.ntmps32
    go_wp2_with (with_reducible refine aList ?_; refine ldA 1 w.heap.size [.int .i64 i0, .int .i64 i1, .int .i64 i2, .int .i64 i3, .int .i64 i4, .int .i64 i5, .int .i64 i6, .int .i64 i7, .int .i64 i8, .int .i64 i9, .int .i64 i10, .int .i64 i11, .int .i64 i12, .int .i64 i13, .int .i64 i14] rfl rfl rfl rfl ?_ ?_; exact r0)
    refine CO.out.mono ?_
    rintro e w1 ⟨a_, c_, rfl, ho, hb⟩
    have hz1 := hb.size
    simp only [World.size_alloc] at hz1
    have hqw : w.heap.size + 1 + 1 ≤ w1.heap.size := hz1
    have X3 := Lib.hid ((X0.out.below hb).alloc (.cells #[.slice a_ 24 c_] 26 (0, 0)))
    have HBq0 := HB0.out.trans (hb.mono HB0.out.size)
    have HBq := Lib.hid (HBq0.alloc HBq0.size (.cells #[.slice a_ 24 c_] 26 (0, 0)))
    have X4 := Lib.hid (BoxF.new w1 [.slice a_ 24 c_] 26)
    have R4 := Lib.hid (OwnI.below (OwnI.low ho (B' := w.heap.size + 1 + 1) (by simp)) ((Below.refl _ w1).alloc (Nat.le_refl _) (.cells #[.slice a_ 24 c_] 26 (0, 0))))
    clear hb X0 HB0 r0 ho HBq0
    go_upto_region 4 with fail
    refine wp_region_noPanic ?_
    refine wp_region_held_drew (S := fun W => BoxF W w1.heap.size [.slice a_ 24 c_] 26 ∧ (∃ v, BoxF W (w.heap.size + 1) [v] 26) ∧ Below w.heap.size w W ∧ OwnI W (w.heap.size + 1 + 1) a_ 24 c_ X ∧ w.heap.size + 1 + 1 ≤ (W).heap.size) (by kernel_rfl) ⟨X4.out, ⟨_, X3.out⟩, below_drewN' HBq.out 1, R4.out.drewN 1, by simp; omega⟩ (fun hHeld => ?_)
    generalize (w1.alloc (.cells #[.slice a_ 24 c_] 26 (0, 0))).drew = Wd at *
    refine wpAnyH_take (i := 1) (oi := { dst := some 15, op := _, type := _, pos := _, after := _, guard := _ }) (v := .agg #[.slice a_ 24 c_]) rfl (by kernel_rfl) (by kernel_rfl) (by kernel_rfl) (fun _ _ _ h => h) (Or.inl ⟨by rfl, ?_⟩) hHeld ?_
    · (intro w_ hSw; have c_0 := hSw.1.one.1; clear hSw; go_simp; first | done | with_reducible rfl | rfl | (intro h_; omega) | (simp only [IntKind.wrap, IntKind.bits, IntKind.signed]; omega) | (simp [IntKind.wrap, IntKind.bits, IntKind.signed]; omega))
    set_option linter.unusedSimpArgs false in try simp only [Act.put, List.setIfInBounds_toArray, List.set_cons_zero, List.set_cons_succ]
    refine wpAnyH_ready (rs := [0]) (by kernel_rfl) (by simp) ?_
    refine AllReadyH.cons rfl (fun K hK => ?_) ?_
    rotate_left
    · exact AllReadyH.nil
    try rw [if_pos (by rfl)]
    go_simp
    refine (shield_impl _).mono ?_
    rintro e w5 ⟨gS, rfl, hoS, hbS⟩
    have g0 : BoxF w5 w1.heap.size [.slice a_ 24 c_] 26 ∧ (∃ v, BoxF w5 (w.heap.size + 1) [v] 26) ∧ Below w.heap.size w w5 ∧ OwnI w5 (w.heap.size + 1 + 1) a_ 24 c_ X ∧ w.heap.size + 1 + 1 ≤ (w5).heap.size := ⟨hHeld.1.below hbS, hHeld.2.1.imp (fun _ h_ => h_.below hbS), hHeld.2.2.1.trans (hbS.mono hHeld.2.2.1.size), hHeld.2.2.2.1.below hbS, Nat.le_trans hHeld.2.2.2.2 hbS.size⟩
    have HOS := Lib.hid hoS.rd
    clear hoS hbS
    go_wp2_with fail
    refine hK.out _ _ (g0) (fun hHeld => ?_)
    clear hK K
    set_option linter.unusedSimpArgs false in try simp only [Act.put, List.setIfInBounds_toArray, List.set_cons_zero, List.set_cons_succ]

    refine wpAnyH_ready (rs := [2]) (by kernel_rfl) (by simp) ?_
    refine AllReadyH.cons rfl (fun K hK => ?_) ?_
    rotate_left
    · exact AllReadyH.nil
    try rw [if_pos (by rfl)]
    go_simp
    refine (CC.out _ _ _ _ HOS.out g0.2.2.2.1.rd).mono ?_
    rintro e w6 ⟨aC, cC, rfl, hoC, hbC⟩
    have g1 : BoxF w6 w1.heap.size [.slice a_ 24 c_] 26 ∧ (∃ v, BoxF w6 (w.heap.size + 1) [v] 26) ∧ Below w.heap.size w w6 ∧ OwnI w6 (w.heap.size + 1 + 1) a_ 24 c_ X ∧ w.heap.size + 1 + 1 ≤ (w6).heap.size := ⟨g0.1.below hbC, g0.2.1.imp (fun _ h_ => h_.below hbC), g0.2.2.1.trans (hbC.mono g0.2.2.1.size), g0.2.2.2.1.below hbC, Nat.le_trans g0.2.2.2.2 hbC.size⟩
    have hz6 := g0.2.2.2.2
    have HOC := Lib.hid hoC
    clear hoC hbC g0
    go_wp2_with fail
    refine hK.out _ _ (g1) (fun hHeld => ?_)
    clear hK K
    set_option linter.unusedSimpArgs false in try simp only [Act.put, List.setIfInBounds_toArray, List.set_cons_zero, List.set_cons_succ]

    refine wpAnyH_take (i := 3) (oi := { dst := some 17, op := _, type := _, pos := _, after := _, guard := _ }) (v := .agg #[.slice aC 24 cC]) rfl (by kernel_rfl) (by kernel_rfl) (by kernel_rfl) (fun _ _ _ h => h) (Or.inl ⟨by rfl, ?_⟩) hHeld ?_
    · (intro w_ hSw; clear hSw; go_simp; first | done | with_reducible rfl | rfl | (intro h_; omega) | (simp only [IntKind.wrap, IntKind.bits, IntKind.signed]; omega) | (simp [IntKind.wrap, IntKind.bits, IntKind.signed]; omega))
    set_option linter.unusedSimpArgs false in try simp only [Act.put, List.setIfInBounds_toArray, List.set_cons_zero, List.set_cons_succ]
    refine wpAnyH_take (i := 4) (oi := { dst := some 18, op := _, type := _, pos := _, after := _, guard := _ }) (v := .bool true) rfl (by kernel_rfl) (by kernel_rfl) (by kernel_rfl) (fun _ _ _ h => h) (Or.inl ⟨by rfl, ?_⟩) hHeld ?_
    · (intro w_ hSw; clear hSw; go_simp; first | done | with_reducible rfl | rfl | (intro h_; omega) | (simp only [IntKind.wrap, IntKind.bits, IntKind.signed]; omega) | (simp [IntKind.wrap, IntKind.bits, IntKind.signed]; omega))
    set_option linter.unusedSimpArgs false in try simp only [Act.put, List.setIfInBounds_toArray, List.set_cons_zero, List.set_cons_succ]
    refine wpAnyH_ready (rs := [5]) (by kernel_rfl) (by simp) ?_
    refine AllReadyH.cons rfl (fun K hK => ?_) ?_
    rotate_left
    · exact AllReadyH.nil
    obtain ⟨v0, hv0⟩ := g1.2.1
    obtain ⟨c_1, f_1⟩ := hv0.one
    have f_2 := f_1 0
    have NB := hv0.set 0 (.slice aC 24 cC)
    have HG := grownBy_set w6 (w.heap.size + 1) 0 (.slice aC 24 cC)
    have hl6 := fun q hq => (World.ownsRow.lt HOC.out q hq).1
    try rw [if_pos (by rfl)]
    go_simp
    have g9 : BoxF (w6.setCell ⟨w.heap.size + 1, 0, none⟩ (.slice aC 24 cC)) w1.heap.size [.slice a_ 24 c_] 26 ∧ (∃ v, BoxF (w6.setCell ⟨w.heap.size + 1, 0, none⟩ (.slice aC 24 cC)) (w.heap.size + 1) [v] 26) ∧ Below w.heap.size w (w6.setCell ⟨w.heap.size + 1, 0, none⟩ (.slice aC 24 cC)) ∧ OwnI (w6.setCell ⟨w.heap.size + 1, 0, none⟩ (.slice aC 24 cC)) (w.heap.size + 1 + 1) a_ 24 c_ X ∧ w.heap.size + 1 + 1 ≤ ((w6.setCell ⟨w.heap.size + 1, 0, none⟩ (.slice aC 24 cC))).heap.size := ⟨g1.1.kept HG (by intro e; simp at e; omega), ⟨_, NB⟩, g1.2.2.1.grown HG g1.2.2.1.size (fun q hq => by cases hq; omega), g1.2.2.2.1.kept HG (.inr (by intro e; have := (World.ownsRow.lt g1.2.2.2.1 _ e).1; omega)), by simpa using g1.2.2.2.2⟩
    refine hK.out _ _ g9 (fun hHeld => ?_)
    clear hK K
    set_option linter.unusedSimpArgs false in try simp only [Act.put, List.setIfInBounds_toArray, List.set_cons_zero, List.set_cons_succ]
    refine wpAnyH_take (i := 6) (oi := { dst := some 3, op := _, type := _, pos := _, after := _, guard := _ }) (v := .bool true) rfl (by kernel_rfl) (by kernel_rfl) (by kernel_rfl) (fun _ _ _ h => h) (Or.inl ⟨by rfl, ?_⟩) hHeld ?_
    · (intro w_ hSw; clear hSw; go_simp; first | done | with_reducible rfl | rfl | (intro h_; omega) | (simp only [IntKind.wrap, IntKind.bits, IntKind.signed]; omega) | (simp [IntKind.wrap, IntKind.bits, IntKind.signed]; omega))
    set_option linter.unusedSimpArgs false in try simp only [Act.put, List.setIfInBounds_toArray, List.set_cons_zero, List.set_cons_succ]
    refine wpAnyH_done (by kernel_rfl) ?_ _
    refine NoPanic.normal ?_
    have Z9 := NB.one.1
    have hsq := HBq.out.size
    have HO9 := Lib.hid (OwnI.kept (OwnI.low HOC.out (show w.heap.size ≤ _ by omega)) HG (.inr (by intro e; have := hl6 _ e; omega)))
    have HB9 := Lib.hid (g9.2.2.1)
    clear hHeld g9 g1 HG NB c_1 f_1 f_2 hv0
    go_wp2_with fail
    exact bodyPost_ret (v := .tuple #[.agg #[.slice aC 24 cC], .bool true]) (by simp [results, Tryd.results32, go_sem, Z9]) rfl ⟨_, _, rfl, HO9.out, HB9.out⟩
end Go.Proofs.YthapidnjioindaaDoor
