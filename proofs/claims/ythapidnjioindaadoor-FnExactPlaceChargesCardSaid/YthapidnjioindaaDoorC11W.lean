/- Contracts: PlaceCharges of both sides. -/
import Derived.Test.YthapidnjioindaaDoorC11S
import Derived.Test.YthapidnjioindaaDoorKLC
import Derived.Test.YthapidnjioindaaDoorKQ
import Derived.Test.YthapidnjioindaaDoorKE
namespace Go.Proofs.YthapidnjioindaaDoor
open Go.RowKit

/-- The boxes for a group in a region. -/
def placeG (X : List Int) (c k a t : Int) : Option (List Bx) := if gNoB c k a t = true then some [] else largR X c
def plO (r : Bool) (i4 i5 i7 i8 i9 i10 i11 i12 i13 i14 : Int) : Option (List Bx × List Bx) :=
  if r = true then (placeG (rowsOfR (regN (partO false i4 i5))) i7 i8 i9 i10).bind fun X => (placeG (rowsOfR (regN (partO true i4 i5))) i11 i12 i13 i14).map fun Y => (X, Y) else none
/-- Two lists of boxes in memory of their own, and a truth value. -/
def AnsB2 (W : World) (X Y : List Bx) (ok : Bool) (e : Ending) (w' : World) : Prop :=
  ∃ a1 c1 a2 c2, e = .returned (.tuple #[.slice a1 X.length c1, .slice a2 Y.length c2, .bool ok]) ∧ OwnBx w' W.heap.size (.slice a1 X.length c1) X ∧ OwnBx w' W.heap.size (.slice a2 Y.length c2) Y ∧ (∀ q, (Value.slice a1 X.length c1).ownBlock = some q → (Value.slice a2 Y.length c2).ownBlock ≠ some q) ∧ Below W.heap.size W w'
def AnsP (W : World) (o : Option (List Bx × List Bx)) : Ending → World → Prop := AnsB2 W (o.getD ([], [])).1 (o.getD ([], [])).2 o.isSome
theorem ansP_none {W w' : World} (hb : Below W.heap.size W w') : AnsP W none (.returned (.tuple #[.slice none 0 0, .slice none 0 0, .bool false])) w' :=
  ⟨none, 0, none, 0, rfl, ownBx_nil _ _, ownBx_nil _ _, fun q hq => by simp [Value.ownBlock] at hq, hb⟩
set_option maxRecDepth 100000 in
set_option maxHeartbeats 4000000 in
theorem boxesFor_impl (X : List Int) (n : Nat) (a : Option Addr) (cc : Nat) (c k t s : Int) (w : World) (h : RdI w a n X) (hwf : WfI X) (hn : n ≤ 1048577) (hT : TzT w) :
    Calls Tryd.prog 77 #[.agg #[.slice a n cc], .agg #[.int .i64 c, .int .i64 k, .int .i64 t, .int .i64 s]] w (AnsBx w ((placeG X c k t s).getD []) (placeG X c k t s).isSome) := by
  have XR := (BoxF.new w [.slice a n cc] 26).alloc (.cells #[.int .i64 c, .int .i64 k, .int .i64 t, .int .i64 s] 58 (0, 0))
  have XB := BoxF.new (w.alloc (.cells #[.slice a n cc] 26 (0, 0))) [.int .i64 c, .int .i64 k, .int .i64 t, .int .i64 s] 58
  have hb := ((Below.refl _ w).alloc (Nat.le_refl _) (.cells #[.slice a n cc] 26 (0, 0))).alloc (by simp) (.cells #[.int .i64 c, .int .i64 k, .int .i64 t, .int .i64 s] 58 (0, 0))
  simp only [World.size_alloc] at XB
  have c1 := XR.one.1
  have d0 := XB.at 0
  have d1 := XB.at 1
  have d2 := XB.at 2
  have d3 := XB.at 3
  simp only [List.getElem?_cons_zero, List.getElem?_cons_succ] at d0 d1 d2 d3
  have q := fun W => eqGroup_run c k t s 0 0 0 0 W
  have CL0 := large_impl X n a cc c _ (h.below hb) hwf hn (hT.below hb)
  have HB := Lib.hid hb
  clear h hwf hT hb XR XB
  obtain ⟨g, hg⟩ : ∃ g, gNoB c k t s = g := ⟨_, rfl⟩
  have hg2 : decide (c = 0 ∧ k = 0 ∧ t = 0 ∧ s = 0) = g := hg
  rw [hg2] at q
  cases g
  · have hp : placeG X c k t s = largR X c := by unfold placeG; rw [hg]; rfl
    rw [hp]
    generalize largR X c = P at *
    have CL := Lib.hid CL0
    clear hp hg hg2 CL0
    go_enter Tryd.func77, Tryd.ntmps77
    go_wp2_with fail
    refine CL.out.mono ?_
    rintro e w1 ⟨av, cv, rfl, ho, hb1⟩
    have HO := Lib.hid (ho.low HB.out.size)
    have HB1 := Lib.hid (HB.out.trans (hb1.mono HB.out.size))
    clear ho hb1 CL d0 d1 d2 d3 c1 q
    go_wp2_with fail
    go_ret2
    exact ⟨av, cv, rfl, HO.out, HB1.out⟩
  · have hp : placeG X c k t s = some [] := by unfold placeG; rw [hg]; rfl
    rw [hp]
    clear hp hg hg2 CL0
    go_enter Tryd.func77, Tryd.ntmps77
    go_wp2_with fail
    go_ret2
    exact ⟨none, 0, rfl, ownBx_nil _ _, HB.out⟩
set_option maxRecDepth 100000 in
set_option maxHeartbeats 8000000 in
theorem place_impl (i0 i1 i2 i3 i4 i5 i6 i7 i8 i9 i10 i11 i12 i13 i14 : Int) (w : World) (r : Bool) (hr : aOkB i0 i1 i2 i3 i4 i5 i6 i7 i8 i9 i10 i11 i12 i13 i14 = r) (hA : AttsLie w) (hO : OffsLie w) (hT : TzT w) : Calls Tryd.prog 34 #[.agg #[.int .i64 i0, .int .i64 i1, .int .i64 i2, .int .i64 i3, .int .i64 i4, .int .i64 i5, .int .i64 i6, .int .i64 i7, .int .i64 i8, .int .i64 i9, .int .i64 i10, .int .i64 i11, .int .i64 i12, .int .i64 i13, .int .i64 i14]] w (AnsP w (plO r i4 i5 i7 i8 i9 i10 i11 i12 i13 i14)) := by
  have XA0 := BoxF.new w [.int .i64 i0, .int .i64 i1, .int .i64 i2, .int .i64 i3, .int .i64 i4, .int .i64 i5, .int .i64 i6, .int .i64 i7, .int .i64 i8, .int .i64 i9, .int .i64 i10, .int .i64 i11, .int .i64 i12, .int .i64 i13, .int .i64 i14] 60
  have hB0 := (Below.refl w.heap.size w).alloc (Nat.le_refl _) (.cells #[.int .i64 i0, .int .i64 i1, .int .i64 i2, .int .i64 i3, .int .i64 i4, .int .i64 i5, .int .i64 i6, .int .i64 i7, .int .i64 i8, .int .i64 i9, .int .i64 i10, .int .i64 i11, .int .i64 i12, .int .i64 i13, .int .i64 i14] 60 (0, 0))
  have r0 := rangeB XA0
  have XA := Lib.hid XA0
  have HB0 := Lib.hid hB0
  have CO := Lib.hid (armsOrd_impl i0 i1 i2 i3 i4 i5 i6 i7 i8 i9 i10 i11 i12 i13 i14 _ r hr (hA.below hB0) (hO.below hB0))
  have CG := Lib.hid (fun W (hb : Below w.heap.size w W) => ground_impl i0 i1 i2 i3 i4 i5 i6 i7 i8 i9 i10 i11 i12 i13 i14 W r hr (hA.below hb) (hO.below hb))
  have HT := Lib.hid hT
  clear hA hO hT XA0 hB0 hr
  cases r
  · go_enter Tryd.func34, Tryd.ntmps34
    go_wp2_with (with_reducible refine aList ?_; refine ldA 1 w.heap.size [.int .i64 i0, .int .i64 i1, .int .i64 i2, .int .i64 i3, .int .i64 i4, .int .i64 i5, .int .i64 i6, .int .i64 i7, .int .i64 i8, .int .i64 i9, .int .i64 i10, .int .i64 i11, .int .i64 i12, .int .i64 i13, .int .i64 i14] rfl rfl rfl rfl ?_ ?_; exact r0)
    refine CO.out.mono ?_
    rintro e w1 ⟨a_, c_, rfl, _, hb⟩
    have HB1_ := HB0.out.trans (hb.mono HB0.out.size)
    have HB1 := Lib.hid (HB1_.alloc HB1_.size (.cells #[.slice a_ (ansLen false) c_] 26 (0, 0)))
    have r0 := rangeB ((XA.out.below hb).alloc (.cells #[.slice a_ (ansLen false) c_] 26 (0, 0)))
    clear hb HB0 HB1_
    go_wp2_with (with_reducible refine aList ?_; refine ldA 1 w.heap.size [.int .i64 i0, .int .i64 i1, .int .i64 i2, .int .i64 i3, .int .i64 i4, .int .i64 i5, .int .i64 i6, .int .i64 i7, .int .i64 i8, .int .i64 i9, .int .i64 i10, .int .i64 i11, .int .i64 i12, .int .i64 i13, .int .i64 i14] rfl rfl rfl rfl ?_ ?_; exact r0)
    refine (CG.out _ HB1.out).mono ?_
    rintro e w2 ⟨a2_, c2_, rfl, _, hb⟩
    have HB2_ := HB1.out.trans (hb.mono HB1.out.size)
    have HB2 := Lib.hid (HB2_.alloc HB2_.size (.cells #[.slice a2_ (ansLen false) c2_] 26 (0, 0)))
    clear hb HB1 HB2_ r0
    go_wp2_with fail
    refine bodyPost_ret (v := .tuple #[.slice none 0 0, .slice none 0 0, .bool false]) (by simp [results, Tryd.results34, go_sem]) rfl ?_
    exact ansP_none HB2.out
  · obtain ⟨X1, hX1⟩ : ∃ X, rowsOfR (regN (partO false i4 i5)) = X := ⟨_, rfl⟩
    obtain ⟨X2, hX2⟩ : ∃ X, rowsOfR (regN (partO true i4 i5)) = X := ⟨_, rfl⟩
    have hw1 : WfI X1 := by rw [← hX1]; exact good_wf (good_reg _)
    have hw2 : WfI X2 := by rw [← hX2]; exact good_wf (good_reg _)
    have eX1 : ansRows true false i4 i5 = X1 := hX1
    have eX2 : ansRows true true i4 i5 = X2 := hX2
    have e24 : ansLen true = 24 := rfl
    rw [eX1, e24] at CO
    rw [eX2, e24] at CG
    have F1 := fun W a c (h : RdI W a 24 X1) (hT : TzT W) => boxesFor_impl X1 24 a c i7 i8 i9 i10 W h hw1 (by omega) hT
    have F2 := fun W a c (h : RdI W a 24 X2) (hT : TzT W) => boxesFor_impl X2 24 a c i11 i12 i13 i14 W h hw2 (by omega) hT
    have hplo : plO true i4 i5 i7 i8 i9 i10 i11 i12 i13 i14 = (placeG X1 i7 i8 i9 i10).bind fun X => (placeG X2 i11 i12 i13 i14).map fun Y => (X, Y) := by rw [← hX1, ← hX2]; rfl
    rw [hplo]
    generalize placeG X1 i7 i8 i9 i10 = P1 at *
    generalize placeG X2 i11 i12 i13 i14 = P2 at *
    have F1 := Lib.hid F1
    have F2 := Lib.hid F2
    clear hX1 hX2 hw1 hw2 eX1 eX2 e24 hplo
    obtain ⟨L1, hL1⟩ : ∃ L, P1.getD [] = L := ⟨_, rfl⟩
    obtain ⟨L2, hL2⟩ : ∃ L, P2.getD [] = L := ⟨_, rfl⟩
    obtain ⟨b1, hb1⟩ : ∃ b, P1.isSome = b := ⟨_, rfl⟩
    obtain ⟨b2, hb2⟩ : ∃ b, P2.isSome = b := ⟨_, rfl⟩
    rw [hL1, hb1] at F1
    rw [hL2, hb2] at F2
    have HL := Lib.hid (And.intro hL1 (And.intro hL2 (And.intro hb1 hb2)))
    clear hL1 hL2 hb1 hb2
    cases b1 <;> cases b2
    all_goals
      go_enter Tryd.func34, Tryd.ntmps34
      go_wp2_with (with_reducible refine aList ?_; refine ldA 1 w.heap.size [.int .i64 i0, .int .i64 i1, .int .i64 i2, .int .i64 i3, .int .i64 i4, .int .i64 i5, .int .i64 i6, .int .i64 i7, .int .i64 i8, .int .i64 i9, .int .i64 i10, .int .i64 i11, .int .i64 i12, .int .i64 i13, .int .i64 i14] rfl rfl rfl rfl ?_ ?_; exact r0)
      refine CO.out.mono ?_
      rintro e w1 ⟨a_, c_, rfl, ho1, hb⟩
      have XA1 := Lib.hid ((XA.out.below hb).alloc (.cells #[.slice a_ 24 c_] 26 (0, 0)))
      have HB1_ := HB0.out.trans (hb.mono HB0.out.size)
      have HB1 := Lib.hid (HB1_.alloc HB1_.size (.cells #[.slice a_ 24 c_] 26 (0, 0)))
      have X5 := Lib.hid (BoxF.new w1 [.slice a_ 24 c_] 26)
      have R1 := Lib.hid (ho1.rd.below ((Below.refl _ w1).alloc (Nat.le_refl _) (.cells #[.slice a_ 24 c_] 26 (0, 0))))
      have r0 := rangeB XA1.out
      clear hb HB0 HB1_ XA ho1
      go_wp2_with (with_reducible refine aList ?_; refine ldA 1 w.heap.size [.int .i64 i0, .int .i64 i1, .int .i64 i2, .int .i64 i3, .int .i64 i4, .int .i64 i5, .int .i64 i6, .int .i64 i7, .int .i64 i8, .int .i64 i9, .int .i64 i10, .int .i64 i11, .int .i64 i12, .int .i64 i13, .int .i64 i14] rfl rfl rfl rfl ?_ ?_; exact r0)
      refine (CG.out _ HB1.out).mono ?_
      rintro e w2 ⟨a2_, c2_, rfl, ho2, hb⟩
      have XA2 := Lib.hid ((XA1.out.below hb).alloc (.cells #[.slice a2_ 24 c2_] 26 (0, 0)))
      have X52 := Lib.hid ((X5.out.below hb).alloc (.cells #[.slice a2_ 24 c2_] 26 (0, 0)))
      have R12 := Lib.hid ((R1.out.below hb).below ((Below.refl _ w2).alloc (Nat.le_refl _) (.cells #[.slice a2_ 24 c2_] 26 (0, 0))))
      have HB2_ := HB1.out.trans (hb.mono HB1.out.size)
      have HB2 := Lib.hid (HB2_.alloc HB2_.size (.cells #[.slice a2_ 24 c2_] 26 (0, 0)))
      have X7 := Lib.hid (BoxF.new w2 [.slice a2_ 24 c2_] 26)
      have R2 := Lib.hid (ho2.rd.below ((Below.refl _ w2).alloc (Nat.le_refl _) (.cells #[.slice a2_ 24 c2_] 26 (0, 0))))
      have c5 := X52.out.one.1
      have XA_ := XA2.out
      have d7 := XA_.at 7
      have d8 := XA_.at 8
      have d9 := XA_.at 9
      have d10 := XA_.at 10
      set_option linter.unusedSimpArgs false in simp only [List.getElem?_cons_zero, List.getElem?_cons_succ] at d7 d8 d9 d10
      clear hb HB1 HB2_ XA1 X5 R1 ho2 r0 XA_
      go_wp2_with fail
      refine (F1.out _ _ _ R12.out (HT.out.below HB2.out)).mono ?_
      rintro e w3 ⟨av1, cv1, rfl, hv1, hb⟩
      have hl1 := fun q hq => World.ownsRow.lt hv1 q hq
      have V1 := Lib.hid (hv1.low HB2.out.size)
      have HB3 := Lib.hid (HB2.out.trans (hb.mono HB2.out.size))
      have c7 := (X7.out.below hb).one.1
      have R23 := Lib.hid (R2.out.below hb)
      have XA_ := XA2.out.below hb
      have d11 := XA_.at 11
      have d12 := XA_.at 12
      have d13 := XA_.at 13
      have d14 := XA_.at 14
      set_option linter.unusedSimpArgs false in simp only [List.getElem?_cons_zero, List.getElem?_cons_succ] at d11 d12 d13 d14
      clear hb HB2 XA2 X52 X7 R2 R12 hv1 c5 XA_ d7 d8 d9 d10
      go_wp2_with fail
      refine (F2.out _ _ _ R23.out (HT.out.below HB3.out)).mono ?_
      rintro e w4 ⟨av2, cv2, rfl, hv2, hb⟩
      have hl2 := fun q hq => World.ownsRow.lt hv2 q hq
      have V2 := Lib.hid (hv2.low HB3.out.size)
      have V1' := Lib.hid (V1.out.below hb)
      have HB4 := Lib.hid (HB3.out.trans (hb.mono HB3.out.size))
      obtain ⟨e1, e2, e3, e4⟩ := HL.out
      clear hb V1 HB3 hv2 c7 d11 d12 d13 d14
      go_wp2_with fail
      first
        | (have hP1 : P1 = none := by simpa using e3
           subst hP1
           refine bodyPost_ret (v := .tuple #[.slice none 0 0, .slice none 0 0, .bool false]) (by simp [results, Tryd.results34, go_sem]) rfl ?_
           exact ansP_none HB4.out)
        | (have hP2 : P2 = none := by simpa using e4
           subst hP2
           have hz : (P1.bind fun X => (none : Option (List Bx)).map fun Y => (X, Y)) = none := by cases P1 <;> rfl
           rw [hz]
           refine bodyPost_ret (v := .tuple #[.slice none 0 0, .slice none 0 0, .bool false]) (by simp [results, Tryd.results34, go_sem]) rfl ?_
           exact ansP_none HB4.out)
        | (obtain ⟨L1', rfl⟩ := Option.isSome_iff_exists.1 e3
           obtain ⟨L2', rfl⟩ := Option.isSome_iff_exists.1 e4
           simp only [Option.getD_some] at e1 e2
           subst e1
           subst e2
           go_ret3
           exact ⟨av1, cv1, av2, cv2, rfl, V1'.out, V2.out, fun q hq1 hq2 => by have h1 := (hl1 q hq1).2; have h2 := (hl2 q hq2).1; omega, HB4.out⟩)
end Go.Proofs.YthapidnjioindaaDoor
