/- Contracts: PlaceCharges of the model. -/
import Derived.Test.YthapidnjioindaaDoorC11W
import Derived.Deep.MidRow
import Derived.Deep.DeepCutAuto
import Derived.Deep.RegionHeld3
namespace Go.Proofs.YthapidnjioindaaDoor
open Go.RowKit

theorem ansP_lit {w W : World} (hb : Below w.heap.size w W) : AnsP w none (.returned (.tuple #[.slice (some ⟨W.heap.size, 0, none⟩) 0 0, .slice (some ⟨W.heap.size + 1, 0, none⟩) 0 0, .bool false])) ((W.alloc (.cells #[] 36 (0, 0))).alloc (.cells #[] 36 (0, 0))) := by
  refine ⟨_, 0, _, 0, rfl, ?_, ?_, fun q hq e => by simp [Value.ownBlock] at hq e; omega, (hb.alloc hb.size _).alloc (by have := hb.size; simp; omega) _⟩
  · exact OwnBx.below (litBx W _ hb.size) ((Below.refl _ _).alloc (Nat.le_refl _) _)
  · have := litBx (W.alloc (.cells #[] 36 (0, 0))) w.heap.size (by have := hb.size; simp; omega)
    simpa using this
theorem aOk_cnt {i0 i1 i2 i3 i4 i5 i6 i7 i8 i9 i10 i11 i12 i13 i14 : Int} (h : aOkB i0 i1 i2 i3 i4 i5 i6 i7 i8 i9 i10 i11 i12 i13 i14 = true) : (gNoB i7 i8 i9 i10 = false → (1 ≤ i7 ∧ i7 ≤ 6)) ∧ (gNoB i11 i12 i13 i14 = false → (1 ≤ i11 ∧ i11 ≤ 6)) := by
  unfold aOkB at h
  simp only [Bool.and_eq_true, decide_eq_true_eq, Bool.or_eq_true] at h
  obtain ⟨_, _, h3, h4⟩ := h
  refine ⟨fun hn => ?_, fun hn => ?_⟩
  · split at h4
    · simp only [Bool.and_eq_true] at h4
      rw [hn] at h4; simp at h4
    · simp only [Bool.and_eq_true, Bool.or_eq_true] at h4
      rcases h4.2.2 with h | h
      · rw [hn] at h; cases h
      · exact (gOk_out h).1
  · rcases h3 with h | h
    · rw [hn] at h; cases h
    · exact (gOk_out h).1
set_option maxRecDepth 100000 in
set_option maxHeartbeats 16000000 in
theorem l11Place_any (i0 i1 i2 i3 i4 i5 i6 i7 i8 i9 i10 i11 i12 i13 i14 : Int) (w : World) (hr : aOkB i0 i1 i2 i3 i4 i5 i6 i7 i8 i9 i10 i11 i12 i13 i14 = true) : Calls Tryd.prog 76 #[.agg #[.int .i64 i0, .int .i64 i1, .int .i64 i2, .int .i64 i3, .int .i64 i4, .int .i64 i5, .int .i64 i6, .int .i64 i7, .int .i64 i8, .int .i64 i9, .int .i64 i10, .int .i64 i11, .int .i64 i12, .int .i64 i13, .int .i64 i14]] w (AnsP w (plO true i4 i5 i7 i8 i9 i10 i11 i12 i13 i14)) := by
  have hol := aOk_line hr
  have hcnt := aOk_counts hr
  obtain ⟨X1, hX1⟩ : ∃ X, rowsOfR (regN (partO false i4 i5)) = X := ⟨_, rfl⟩
  obtain ⟨X2, hX2⟩ : ∃ X, rowsOfR (regN (partO true i4 i5)) = X := ⟨_, rfl⟩
  have hg1 : goodR X1 = true := by rw [← hX1]; exact good_reg _
  have hg2 : goodR X2 = true := by rw [← hX2]; exact good_reg _
  have CR1 : Hid (∀ W, Calls Tryd.prog 70 #[.agg #[.int .i64 i0, .int .i64 i1, .int .i64 i2, .int .i64 i3, .int .i64 i4, .int .i64 i5, .int .i64 i6, .int .i64 i7, .int .i64 i8, .int .i64 i9, .int .i64 i10, .int .i64 i11, .int .i64 i12, .int .i64 i13, .int .i64 i14], .bool false] W fun e w' => ∃ g : Nat, e = .returned (.agg #[.slice (some ⟨g, 0, none⟩) 24 24]) ∧ OwnI w' W.heap.size (some ⟨g, 0, none⟩) 24 24 X1 ∧ Below W.heap.size W w') := Lib.hid (fun W => by rw [← hX1]; exact l11Region_any i0 i1 i2 i3 i4 i5 i6 i7 i8 i9 i10 i11 i12 i13 i14 false W hol.1 hol.2)
  have CR2 : Hid (∀ W, Calls Tryd.prog 70 #[.agg #[.int .i64 i0, .int .i64 i1, .int .i64 i2, .int .i64 i3, .int .i64 i4, .int .i64 i5, .int .i64 i6, .int .i64 i7, .int .i64 i8, .int .i64 i9, .int .i64 i10, .int .i64 i11, .int .i64 i12, .int .i64 i13, .int .i64 i14], .bool true] W fun e w' => ∃ g : Nat, e = .returned (.agg #[.slice (some ⟨g, 0, none⟩) 24 24]) ∧ OwnI w' W.heap.size (some ⟨g, 0, none⟩) 24 24 X2 ∧ Below W.heap.size W w') := Lib.hid (fun W => by rw [← hX2]; exact l11Region_any i0 i1 i2 i3 i4 i5 i6 i7 i8 i9 i10 i11 i12 i13 i14 true W hol.1 hol.2)
  have CL1 := fun W a c (h : RdI W a 24 X1) => l11Largest_any X1 a c i7.toNat W h hg1 (by omega)
  have CL2 := fun W a c (h : RdI W a 24 X2) => l11Largest_any X2 a c i11.toNat W h hg2 (by omega)
  rw [show ((i7.toNat : Nat) : Int) = i7 by omega] at CL1
  rw [show ((i11.toNat : Nat) : Int) = i11 by omega] at CL2
  obtain ⟨n1, hn1⟩ : ∃ n, gNoB i7 i8 i9 i10 = n := ⟨_, rfl⟩
  obtain ⟨n2, hn2⟩ : ∃ n, gNoB i11 i12 i13 i14 = n := ⟨_, rfl⟩
  have CN1 := Lib.hid (fun W => l4None_any i7 i8 i9 i10 W n1 hn1)
  have CN2 := Lib.hid (fun W => l4None_any i11 i12 i13 i14 W n2 hn2)
  have hout := aOk_cnt hr
  have hplo : plO true i4 i5 i7 i8 i9 i10 i11 i12 i13 i14 = (if n1 = true then some [] else largeS (nxF X1) i7.toNat 8).bind fun X => (if n2 = true then some [] else largeS (nxF X2) i11.toNat 8).map fun Y => (X, Y) := by
    unfold plO
    rw [if_pos rfl, hX1, hX2]
    unfold placeG
    rw [hn1, hn2] at *
    congr 1
    · split
      · rfl
      · rename_i h1
        unfold largR
        rw [hg1, decide_eq_true (hout.1 (by simpa using h1))]; rfl
    · funext X
      congr 1
      split
      · rfl
      · rename_i h1
        unfold largR
        rw [hg2, decide_eq_true (hout.2 (by simpa using h1))]; rfl
  rw [hplo]
  clear hplo hout hn1 hn2 hol hcnt hX1 hX2 hg1 hg2 hr
  generalize largeS (nxF X1) i7.toNat 8 = P1 at *
  generalize largeS (nxF X2) i11.toNat 8 = P2 at *
  have CL1 := Lib.hid CL1
  have CL2 := Lib.hid CL2
  have XA := Lib.hid (((BoxF.new w [.int .i64 i0, .int .i64 i1, .int .i64 i2, .int .i64 i3, .int .i64 i4, .int .i64 i5, .int .i64 i6, .int .i64 i7, .int .i64 i8, .int .i64 i9, .int .i64 i10, .int .i64 i11, .int .i64 i12, .int .i64 i13, .int .i64 i14] 60).alloc (.cells #[] 36 (0, 0))).alloc (.cells #[] 36 (0, 0)))
  have HB := Lib.hid ((((Below.refl w.heap.size w).alloc (Nat.le_refl _) (.cells #[.int .i64 i0, .int .i64 i1, .int .i64 i2, .int .i64 i3, .int .i64 i4, .int .i64 i5, .int .i64 i6, .int .i64 i7, .int .i64 i8, .int .i64 i9, .int .i64 i10, .int .i64 i11, .int .i64 i12, .int .i64 i13, .int .i64 i14] 60 (0, 0))).alloc (by simp) (.cells #[] 36 (0, 0))).alloc (by simp; omega) (.cells #[] 36 (0, 0)))
  have u1 := OwnBx.below (litBx (w.alloc (.cells #[.int .i64 i0, .int .i64 i1, .int .i64 i2, .int .i64 i3, .int .i64 i4, .int .i64 i5, .int .i64 i6, .int .i64 i7, .int .i64 i8, .int .i64 i9, .int .i64 i10, .int .i64 i11, .int .i64 i12, .int .i64 i13, .int .i64 i14] 60 (0, 0))) w.heap.size (by simp)) ((Below.refl _ _).alloc (Nat.le_refl _) (.cells #[] 36 (0, 0)))
  have u2 := litBx ((w.alloc (.cells #[.int .i64 i0, .int .i64 i1, .int .i64 i2, .int .i64 i3, .int .i64 i4, .int .i64 i5, .int .i64 i6, .int .i64 i7, .int .i64 i8, .int .i64 i9, .int .i64 i10, .int .i64 i11, .int .i64 i12, .int .i64 i13, .int .i64 i14] 60 (0, 0))).alloc (.cells #[] 36 (0, 0))) w.heap.size (by simp; omega)
  simp only [World.size_alloc] at u1 u2
  have U1 := Lib.hid u1
  have U2 := Lib.hid u2
  clear u1 u2
  go_enter Tryd.func76, Tryd.ntmps76
  have d7 := XA.out.at 7
  have d8 := XA.out.at 8
  have d9 := XA.out.at 9
  have d10 := XA.out.at 10
  set_option linter.unusedSimpArgs false in simp only [List.getElem?_cons_zero, List.getElem?_cons_succ] at d7 d8 d9 d10
  go_wp2_with fail
  refine (CN1.out _).mono ?_
  rintro e wn ⟨rfl, hb⟩
  have XA := Lib.hid (XA.out.below hb)
  have HB_ := Lib.hid (HB.out.trans (hb.mono HB.out.size))
  have U1 := Lib.hid (U1.out.below hb)
  have U2 := Lib.hid (U2.out.below hb)
  have hzn := hb.size
  try simp only [World.size_alloc] at hzn
  clear hb HB
  have HB := HB_
  clear HB_ d7 d8 d9 d10
  have hlit : w.heap.size + 1 + 1 + 1 ≤ wn.heap.size := hzn
  cases n1
  · obtain ⟨b1, hb1⟩ : ∃ b, P1.isSome = b := ⟨_, rfl⟩
    rw [hb1] at CL1
    go_upto_region 3 with fail
    refine wp_region_noPanic ?_
    refine wp_region_held_drew (S := fun W => BoxF W w.heap.size [.int .i64 i0, .int .i64 i1, .int .i64 i2, .int .i64 i3, .int .i64 i4, .int .i64 i5, .int .i64 i6, .int .i64 i7, .int .i64 i8, .int .i64 i9, .int .i64 i10, .int .i64 i11, .int .i64 i12, .int .i64 i13, .int .i64 i14] 60 ∧ Below w.heap.size w W ∧ OwnBx W w.heap.size (.slice (some ⟨w.heap.size + 1, 0, none⟩) 0 0) [] ∧ OwnBx W w.heap.size (.slice (some ⟨w.heap.size + 1 + 1, 0, none⟩) 0 0) []) (by kernel_rfl) ⟨XA.out, below_drewN' HB.out 1, U1.out, U2.out⟩ (fun hHeld => ?_)
    generalize wn.drew = Wd at *
    clear XA HB U1 U2
    refine wpAnyH_take (i := 0) rfl (by kernel_rfl) (by kernel_rfl) (by kernel_rfl) (fun _ _ _ h => h) (yieldsIf_load_mid (by rfl) 60 _ rfl w.heap.size 0 rfl [.int .i64 i0, .int .i64 i1, .int .i64 i2, .int .i64 i3, .int .i64 i4, .int .i64 i5, .int .i64 i6, .int .i64 i7, .int .i64 i8, .int .i64 i9, .int .i64 i10, .int .i64 i11, .int .i64 i12, .int .i64 i13, .int .i64 i14] _ (fun w h => rangeB h.1) Tryd.underlying60 rfl (by kernel_rfl)) hHeld ?_
    set_option linter.unusedSimpArgs false in try simp only [Act.put, List.setIfInBounds_toArray, List.set_cons_zero, List.set_cons_succ]
    refine wpAnyH_take (i := 2) (oi := { dst := some 20, op := _, type := _, pos := _, after := _, guard := _ }) (v := .pointer (some ⟨w.heap.size, 7, none⟩)) rfl (by kernel_rfl) (by kernel_rfl) (by kernel_rfl) (fun _ _ _ h => h) (Or.inl ⟨by rfl, ?_⟩) hHeld ?_
    · (intro w_ hSw; clear hSw; go_simp; first | done | with_reducible rfl | rfl | (intro h_; omega) | (simp only [IntKind.wrap, IntKind.bits, IntKind.signed]; omega) | (simp [IntKind.wrap, IntKind.bits, IntKind.signed]; omega))
    set_option linter.unusedSimpArgs false in try simp only [Act.put, List.setIfInBounds_toArray, List.set_cons_zero, List.set_cons_succ]
    refine wpAnyH_take (i := 3) (oi := { dst := some 21, op := _, type := _, pos := _, after := _, guard := _ }) (v := .pointer (some ⟨w.heap.size, 7, none⟩)) rfl (by kernel_rfl) (by kernel_rfl) (by kernel_rfl) (fun _ _ _ h => h) (Or.inl ⟨by rfl, ?_⟩) hHeld ?_
    · (intro w_ hSw; clear hSw; go_simp; first | done | with_reducible rfl | rfl | (intro h_; omega) | (simp only [IntKind.wrap, IntKind.bits, IntKind.signed]; omega) | (simp [IntKind.wrap, IntKind.bits, IntKind.signed]; omega))
    set_option linter.unusedSimpArgs false in try simp only [Act.put, List.setIfInBounds_toArray, List.set_cons_zero, List.set_cons_succ]
    refine wpAnyH_take (i := 4) (oi := { dst := some 22, op := _, type := _, pos := _, after := _, guard := _ }) (v := .int .i64 i7) rfl (by kernel_rfl) (by kernel_rfl) (by kernel_rfl) (fun _ _ _ h => h) (Or.inl ⟨by rfl, ?_⟩) hHeld ?_
    · (intro w_ hSw; have c_ := hSw.1.at 7; set_option linter.unusedSimpArgs false in simp only [List.getElem?_cons_zero, List.getElem?_cons_succ] at c_; clear hSw; go_simp; first | done | with_reducible rfl | rfl | (intro h_; omega) | (simp only [IntKind.wrap, IntKind.bits, IntKind.signed]; omega) | (simp [IntKind.wrap, IntKind.bits, IntKind.signed]; omega))
    set_option linter.unusedSimpArgs false in try simp only [Act.put, List.setIfInBounds_toArray, List.set_cons_zero, List.set_cons_succ]
    refine wpAnyH_ready (rs := [1]) (by kernel_rfl) (by simp) ?_
    refine AllReadyH.cons rfl (fun K hK => ?_) ?_
    rotate_left
    · exact AllReadyH.nil
    try rw [if_pos (by rfl)]
    go_simp
    refine (CR1.out _).mono ?_
    rintro e w5 ⟨g5, rfl, ho5, hb5⟩
    have g0 : BoxF w5 w.heap.size [.int .i64 i0, .int .i64 i1, .int .i64 i2, .int .i64 i3, .int .i64 i4, .int .i64 i5, .int .i64 i6, .int .i64 i7, .int .i64 i8, .int .i64 i9, .int .i64 i10, .int .i64 i11, .int .i64 i12, .int .i64 i13, .int .i64 i14] 60 ∧ Below w.heap.size w w5 ∧ OwnBx w5 w.heap.size (.slice (some ⟨w.heap.size + 1, 0, none⟩) 0 0) [] ∧ OwnBx w5 w.heap.size (.slice (some ⟨w.heap.size + 1 + 1, 0, none⟩) 0 0) [] := ⟨hHeld.1.below hb5, hHeld.2.1.trans (hb5.mono hHeld.2.1.size), hHeld.2.2.1.below hb5, hHeld.2.2.2.below hb5⟩
    have R5 := Lib.hid ho5.rd
    clear ho5 hb5
    go_wp2_with fail
    refine hK.out _ _ (g0) (fun hHeld => ?_)
    clear hK K
    set_option linter.unusedSimpArgs false in try simp only [Act.put, List.setIfInBounds_toArray, List.set_cons_zero, List.set_cons_succ]

    refine wpAnyH_ready (rs := [5]) (by kernel_rfl) (by simp) ?_
    refine AllReadyH.cons rfl (fun K hK => ?_) ?_
    rotate_left
    · exact AllReadyH.nil
    try rw [if_pos (by rfl)]
    go_simp
    refine (CL1.out _ _ _ R5.out).mono ?_
    rintro e w6 ⟨av, cv, rfl, ho6, hb6⟩
    have g1 : BoxF w6 w.heap.size [.int .i64 i0, .int .i64 i1, .int .i64 i2, .int .i64 i3, .int .i64 i4, .int .i64 i5, .int .i64 i6, .int .i64 i7, .int .i64 i8, .int .i64 i9, .int .i64 i10, .int .i64 i11, .int .i64 i12, .int .i64 i13, .int .i64 i14] 60 ∧ Below w.heap.size w w6 ∧ OwnBx w6 w.heap.size (.slice (some ⟨w.heap.size + 1, 0, none⟩) 0 0) [] ∧ OwnBx w6 w.heap.size (.slice (some ⟨w.heap.size + 1 + 1, 0, none⟩) 0 0) [] := ⟨g0.1.below hb6, g0.2.1.trans (hb6.mono g0.2.1.size), g0.2.2.1.below hb6, g0.2.2.2.below hb6⟩
    have hl6 := fun q hq => World.ownsRow.lt ho6 q hq
    have hz6 := g0.1.lt
    have N6 := Lib.hid (ho6.low g0.2.1.size)
    have f1_ := fun q hq => (World.ownsRow.lt g0.2.2.1 q hq).2
    have f2_ := fun q hq => (World.ownsRow.lt g0.2.2.2 q hq).2
    clear ho6 hb6 g0
    go_wp2_with fail
    refine hK.out _ _ (g1) (fun hHeld => ?_)
    clear hK K
    set_option linter.unusedSimpArgs false in try simp only [Act.put, List.setIfInBounds_toArray, List.set_cons_zero, List.set_cons_succ]

    refine wpAnyH_take (i := 6) (oi := { dst := some 17, op := _, type := _, pos := _, after := _, guard := _ }) (v := .tuple #[.slice av (P1.getD []).length cv, .bool b1]) rfl (by kernel_rfl) (by kernel_rfl) (by kernel_rfl) (fun _ _ _ h => h) (Or.inl ⟨by rfl, ?_⟩) hHeld ?_
    · (intro w_ hSw; clear hSw; go_simp; first | done | with_reducible rfl | rfl | (intro h_; omega) | (simp only [IntKind.wrap, IntKind.bits, IntKind.signed]; omega) | (simp [IntKind.wrap, IntKind.bits, IntKind.signed]; omega))
    set_option linter.unusedSimpArgs false in try simp only [Act.put, List.setIfInBounds_toArray, List.set_cons_zero, List.set_cons_succ]
    refine wpAnyH_take (i := 7) (oi := { dst := some 24, op := _, type := _, pos := _, after := _, guard := _ }) (v := .slice av (P1.getD []).length cv) rfl (by kernel_rfl) (by kernel_rfl) (by kernel_rfl) (fun _ _ _ h => h) (Or.inl ⟨by rfl, ?_⟩) hHeld ?_
    · (intro w_ hSw; clear hSw; go_simp; first | done | with_reducible rfl | rfl | (intro h_; omega) | (simp only [IntKind.wrap, IntKind.bits, IntKind.signed]; omega) | (simp [IntKind.wrap, IntKind.bits, IntKind.signed]; omega))
    set_option linter.unusedSimpArgs false in try simp only [Act.put, List.setIfInBounds_toArray, List.set_cons_zero, List.set_cons_succ]
    refine wpAnyH_take (i := 8) (oi := { dst := some 25, op := _, type := _, pos := _, after := _, guard := _ }) (v := .bool b1) rfl (by kernel_rfl) (by kernel_rfl) (by kernel_rfl) (fun _ _ _ h => h) (Or.inl ⟨by rfl, ?_⟩) hHeld ?_
    · (intro w_ hSw; clear hSw; go_simp; first | done | with_reducible rfl | rfl | (intro h_; omega) | (simp only [IntKind.wrap, IntKind.bits, IntKind.signed]; omega) | (simp [IntKind.wrap, IntKind.bits, IntKind.signed]; omega))
    set_option linter.unusedSimpArgs false in try simp only [Act.put, List.setIfInBounds_toArray, List.set_cons_zero, List.set_cons_succ]
    refine wpAnyH_take (i := 9) (oi := { dst := some 7, op := _, type := _, pos := _, after := _, guard := _ }) (v := .slice av (P1.getD []).length cv) rfl (by kernel_rfl) (by kernel_rfl) (by kernel_rfl) (fun _ _ _ h => h) (Or.inl ⟨by rfl, ?_⟩) hHeld ?_
    · (intro w_ hSw; clear hSw; go_simp; first | done | with_reducible rfl | rfl | (intro h_; omega) | (simp only [IntKind.wrap, IntKind.bits, IntKind.signed]; omega) | (simp [IntKind.wrap, IntKind.bits, IntKind.signed]; omega))
    set_option linter.unusedSimpArgs false in try simp only [Act.put, List.setIfInBounds_toArray, List.set_cons_zero, List.set_cons_succ]
    refine wpAnyH_take (i := 10) (oi := { dst := some 8, op := _, type := _, pos := _, after := _, guard := _ }) (v := .bool b1) rfl (by kernel_rfl) (by kernel_rfl) (by kernel_rfl) (fun _ _ _ h => h) (Or.inl ⟨by rfl, ?_⟩) hHeld ?_
    · (intro w_ hSw; clear hSw; go_simp; first | done | with_reducible rfl | rfl | (intro h_; omega) | (simp only [IntKind.wrap, IntKind.bits, IntKind.signed]; omega) | (simp [IntKind.wrap, IntKind.bits, IntKind.signed]; omega))
    set_option linter.unusedSimpArgs false in try simp only [Act.put, List.setIfInBounds_toArray, List.set_cons_zero, List.set_cons_succ]
    refine wpAnyH_done (by kernel_rfl) ?_ _
    refine NoPanic.normal ?_
    have XA := Lib.hid hHeld.1
    have HB := Lib.hid hHeld.2.1
    have U1 := Lib.hid hHeld.2.2.1
    have U2 := Lib.hid hHeld.2.2.2
    clear hHeld g1
    cases b1
    · have hP1 : P1 = none := by simpa using hb1
      subst hP1
      go_wp2_with fail
      go_ret3
      exact ansP_lit HB.out
    · obtain ⟨L1, rfl⟩ := Option.isSome_iff_exists.1 hb1
      simp only [Option.getD_some] at hl6 N6 U1
      clear U1
      have U1 := N6
      have hl1 := hl6
      have hz1 := f2_ _ rfl
      obtain ⟨a1, ha1⟩ : ∃ a, av = a := ⟨_, rfl⟩
      obtain ⟨c1, hc1⟩ : ∃ c, cv = c := ⟨_, rfl⟩
      rw [ha1, hc1] at U1 hl1 ⊢
      clear N6 hl6 hz6 ha1 hc1 f1_ f2_
      have d11 := XA.out.at 11
      have d12 := XA.out.at 12
      have d13 := XA.out.at 13
      have d14 := XA.out.at 14
      set_option linter.unusedSimpArgs false in simp only [List.getElem?_cons_zero, List.getElem?_cons_succ] at d11 d12 d13 d14
      go_wp2_with fail
      refine (CN2.out _).mono ?_
      rintro e wm ⟨rfl, hb⟩
      have XA := Lib.hid (XA.out.below hb)
      have HB_ := Lib.hid (HB.out.trans (hb.mono HB.out.size))
      have U1 := Lib.hid (U1.out.below hb)
      have U2 := Lib.hid (U2.out.below hb)
      have hzn := hb.size
      try simp only [World.size_alloc] at hzn
      clear hb HB
      have HB := HB_
      clear HB_ d11 d12 d13 d14
      cases n2
      · obtain ⟨b2, hb2⟩ : ∃ b, P2.isSome = b := ⟨_, rfl⟩
        rw [hb2] at CL2
        go_upto_region 8 with fail
        refine wp_region_noPanic ?_
        refine wp_region_held_drew (S := fun W => BoxF W w.heap.size [.int .i64 i0, .int .i64 i1, .int .i64 i2, .int .i64 i3, .int .i64 i4, .int .i64 i5, .int .i64 i6, .int .i64 i7, .int .i64 i8, .int .i64 i9, .int .i64 i10, .int .i64 i11, .int .i64 i12, .int .i64 i13, .int .i64 i14] 60 ∧ Below w.heap.size w W ∧ OwnBx W w.heap.size (.slice a1 L1.length c1) L1 ∧ OwnBx W w.heap.size (.slice (some ⟨w.heap.size + 1 + 1, 0, none⟩) 0 0) []) (by kernel_rfl) ⟨XA.out, below_drewN' HB.out 1, U1.out, U2.out⟩ (fun hHeld => ?_)
        generalize wm.drew = Wd at *
        clear XA HB U1 U2
        refine wpAnyH_take (i := 0) rfl (by kernel_rfl) (by kernel_rfl) (by kernel_rfl) (fun _ _ _ h => h) (yieldsIf_load_mid (by rfl) 60 _ rfl w.heap.size 0 rfl [.int .i64 i0, .int .i64 i1, .int .i64 i2, .int .i64 i3, .int .i64 i4, .int .i64 i5, .int .i64 i6, .int .i64 i7, .int .i64 i8, .int .i64 i9, .int .i64 i10, .int .i64 i11, .int .i64 i12, .int .i64 i13, .int .i64 i14] _ (fun w h => rangeB h.1) Tryd.underlying60 rfl (by kernel_rfl)) hHeld ?_
        set_option linter.unusedSimpArgs false in try simp only [Act.put, List.setIfInBounds_toArray, List.set_cons_zero, List.set_cons_succ]
        refine wpAnyH_take (i := 2) (oi := { dst := some 38, op := _, type := _, pos := _, after := _, guard := _ }) (v := .pointer (some ⟨w.heap.size, 11, none⟩)) rfl (by kernel_rfl) (by kernel_rfl) (by kernel_rfl) (fun _ _ _ h => h) (Or.inl ⟨by rfl, ?_⟩) hHeld ?_
        · (intro w_ hSw; clear hSw; go_simp; first | done | with_reducible rfl | rfl | (intro h_; omega) | (simp only [IntKind.wrap, IntKind.bits, IntKind.signed]; omega) | (simp [IntKind.wrap, IntKind.bits, IntKind.signed]; omega))
        set_option linter.unusedSimpArgs false in try simp only [Act.put, List.setIfInBounds_toArray, List.set_cons_zero, List.set_cons_succ]
        refine wpAnyH_take (i := 3) (oi := { dst := some 39, op := _, type := _, pos := _, after := _, guard := _ }) (v := .pointer (some ⟨w.heap.size, 11, none⟩)) rfl (by kernel_rfl) (by kernel_rfl) (by kernel_rfl) (fun _ _ _ h => h) (Or.inl ⟨by rfl, ?_⟩) hHeld ?_
        · (intro w_ hSw; clear hSw; go_simp; first | done | with_reducible rfl | rfl | (intro h_; omega) | (simp only [IntKind.wrap, IntKind.bits, IntKind.signed]; omega) | (simp [IntKind.wrap, IntKind.bits, IntKind.signed]; omega))
        set_option linter.unusedSimpArgs false in try simp only [Act.put, List.setIfInBounds_toArray, List.set_cons_zero, List.set_cons_succ]
        refine wpAnyH_take (i := 4) (oi := { dst := some 40, op := _, type := _, pos := _, after := _, guard := _ }) (v := .int .i64 i11) rfl (by kernel_rfl) (by kernel_rfl) (by kernel_rfl) (fun _ _ _ h => h) (Or.inl ⟨by rfl, ?_⟩) hHeld ?_
        · (intro w_ hSw; have c_ := hSw.1.at 11; set_option linter.unusedSimpArgs false in simp only [List.getElem?_cons_zero, List.getElem?_cons_succ] at c_; clear hSw; go_simp; first | done | with_reducible rfl | rfl | (intro h_; omega) | (simp only [IntKind.wrap, IntKind.bits, IntKind.signed]; omega) | (simp [IntKind.wrap, IntKind.bits, IntKind.signed]; omega))
        set_option linter.unusedSimpArgs false in try simp only [Act.put, List.setIfInBounds_toArray, List.set_cons_zero, List.set_cons_succ]
        refine wpAnyH_ready (rs := [1]) (by kernel_rfl) (by simp) ?_
        refine AllReadyH.cons rfl (fun K hK => ?_) ?_
        rotate_left
        · exact AllReadyH.nil
        try rw [if_pos (by rfl)]
        go_simp
        refine (CR2.out _).mono ?_
        rintro e w5 ⟨g5, rfl, ho5, hb5⟩
        have g0 : BoxF w5 w.heap.size [.int .i64 i0, .int .i64 i1, .int .i64 i2, .int .i64 i3, .int .i64 i4, .int .i64 i5, .int .i64 i6, .int .i64 i7, .int .i64 i8, .int .i64 i9, .int .i64 i10, .int .i64 i11, .int .i64 i12, .int .i64 i13, .int .i64 i14] 60 ∧ Below w.heap.size w w5 ∧ OwnBx w5 w.heap.size (.slice a1 L1.length c1) L1 ∧ OwnBx w5 w.heap.size (.slice (some ⟨w.heap.size + 1 + 1, 0, none⟩) 0 0) [] := ⟨hHeld.1.below hb5, hHeld.2.1.trans (hb5.mono hHeld.2.1.size), hHeld.2.2.1.below hb5, hHeld.2.2.2.below hb5⟩
        have R5 := Lib.hid ho5.rd
        clear ho5 hb5
        go_wp2_with fail
        refine hK.out _ _ (g0) (fun hHeld => ?_)
        clear hK K
        set_option linter.unusedSimpArgs false in try simp only [Act.put, List.setIfInBounds_toArray, List.set_cons_zero, List.set_cons_succ]

        refine wpAnyH_ready (rs := [5]) (by kernel_rfl) (by simp) ?_
        refine AllReadyH.cons rfl (fun K hK => ?_) ?_
        rotate_left
        · exact AllReadyH.nil
        try rw [if_pos (by rfl)]
        go_simp
        refine (CL2.out _ _ _ R5.out).mono ?_
        rintro e w6 ⟨av, cv, rfl, ho6, hb6⟩
        have g1 : BoxF w6 w.heap.size [.int .i64 i0, .int .i64 i1, .int .i64 i2, .int .i64 i3, .int .i64 i4, .int .i64 i5, .int .i64 i6, .int .i64 i7, .int .i64 i8, .int .i64 i9, .int .i64 i10, .int .i64 i11, .int .i64 i12, .int .i64 i13, .int .i64 i14] 60 ∧ Below w.heap.size w w6 ∧ OwnBx w6 w.heap.size (.slice a1 L1.length c1) L1 ∧ OwnBx w6 w.heap.size (.slice (some ⟨w.heap.size + 1 + 1, 0, none⟩) 0 0) [] := ⟨g0.1.below hb6, g0.2.1.trans (hb6.mono g0.2.1.size), g0.2.2.1.below hb6, g0.2.2.2.below hb6⟩
        have hl6 := fun q hq => World.ownsRow.lt ho6 q hq
        have hz6 := g0.1.lt
        have N6 := Lib.hid (ho6.low g0.2.1.size)
        have f1_ := fun q hq => (World.ownsRow.lt g0.2.2.1 q hq).2
        have f2_ := fun q hq => (World.ownsRow.lt g0.2.2.2 q hq).2
        clear ho6 hb6 g0
        go_wp2_with fail
        refine hK.out _ _ (g1) (fun hHeld => ?_)
        clear hK K
        set_option linter.unusedSimpArgs false in try simp only [Act.put, List.setIfInBounds_toArray, List.set_cons_zero, List.set_cons_succ]

        refine wpAnyH_take (i := 6) (oi := { dst := some 35, op := _, type := _, pos := _, after := _, guard := _ }) (v := .tuple #[.slice av (P2.getD []).length cv, .bool b2]) rfl (by kernel_rfl) (by kernel_rfl) (by kernel_rfl) (fun _ _ _ h => h) (Or.inl ⟨by rfl, ?_⟩) hHeld ?_
        · (intro w_ hSw; clear hSw; go_simp; first | done | with_reducible rfl | rfl | (intro h_; omega) | (simp only [IntKind.wrap, IntKind.bits, IntKind.signed]; omega) | (simp [IntKind.wrap, IntKind.bits, IntKind.signed]; omega))
        set_option linter.unusedSimpArgs false in try simp only [Act.put, List.setIfInBounds_toArray, List.set_cons_zero, List.set_cons_succ]
        refine wpAnyH_take (i := 7) (oi := { dst := some 42, op := _, type := _, pos := _, after := _, guard := _ }) (v := .slice av (P2.getD []).length cv) rfl (by kernel_rfl) (by kernel_rfl) (by kernel_rfl) (fun _ _ _ h => h) (Or.inl ⟨by rfl, ?_⟩) hHeld ?_
        · (intro w_ hSw; clear hSw; go_simp; first | done | with_reducible rfl | rfl | (intro h_; omega) | (simp only [IntKind.wrap, IntKind.bits, IntKind.signed]; omega) | (simp [IntKind.wrap, IntKind.bits, IntKind.signed]; omega))
        set_option linter.unusedSimpArgs false in try simp only [Act.put, List.setIfInBounds_toArray, List.set_cons_zero, List.set_cons_succ]
        refine wpAnyH_take (i := 8) (oi := { dst := some 43, op := _, type := _, pos := _, after := _, guard := _ }) (v := .bool b2) rfl (by kernel_rfl) (by kernel_rfl) (by kernel_rfl) (fun _ _ _ h => h) (Or.inl ⟨by rfl, ?_⟩) hHeld ?_
        · (intro w_ hSw; clear hSw; go_simp; first | done | with_reducible rfl | rfl | (intro h_; omega) | (simp only [IntKind.wrap, IntKind.bits, IntKind.signed]; omega) | (simp [IntKind.wrap, IntKind.bits, IntKind.signed]; omega))
        set_option linter.unusedSimpArgs false in try simp only [Act.put, List.setIfInBounds_toArray, List.set_cons_zero, List.set_cons_succ]
        refine wpAnyH_take (i := 9) (oi := { dst := some 9, op := _, type := _, pos := _, after := _, guard := _ }) (v := .slice av (P2.getD []).length cv) rfl (by kernel_rfl) (by kernel_rfl) (by kernel_rfl) (fun _ _ _ h => h) (Or.inl ⟨by rfl, ?_⟩) hHeld ?_
        · (intro w_ hSw; clear hSw; go_simp; first | done | with_reducible rfl | rfl | (intro h_; omega) | (simp only [IntKind.wrap, IntKind.bits, IntKind.signed]; omega) | (simp [IntKind.wrap, IntKind.bits, IntKind.signed]; omega))
        set_option linter.unusedSimpArgs false in try simp only [Act.put, List.setIfInBounds_toArray, List.set_cons_zero, List.set_cons_succ]
        refine wpAnyH_take (i := 10) (oi := { dst := some 10, op := _, type := _, pos := _, after := _, guard := _ }) (v := .bool b2) rfl (by kernel_rfl) (by kernel_rfl) (by kernel_rfl) (fun _ _ _ h => h) (Or.inl ⟨by rfl, ?_⟩) hHeld ?_
        · (intro w_ hSw; clear hSw; go_simp; first | done | with_reducible rfl | rfl | (intro h_; omega) | (simp only [IntKind.wrap, IntKind.bits, IntKind.signed]; omega) | (simp [IntKind.wrap, IntKind.bits, IntKind.signed]; omega))
        set_option linter.unusedSimpArgs false in try simp only [Act.put, List.setIfInBounds_toArray, List.set_cons_zero, List.set_cons_succ]
        refine wpAnyH_done (by kernel_rfl) ?_ _
        refine NoPanic.normal ?_
        have XA := Lib.hid hHeld.1
        have HB := Lib.hid hHeld.2.1
        have U1 := Lib.hid hHeld.2.2.1
        have U2 := Lib.hid hHeld.2.2.2
        clear hHeld g1
        cases b2
        · have hP2 : P2 = none := by simpa using hb2
          subst hP2
          go_wp2_with fail
          go_ret3
          exact ansP_lit HB.out
        · obtain ⟨L2, rfl⟩ := Option.isSome_iff_exists.1 hb2
          simp only [Option.getD_some] at hl6 N6
          go_wp2_with fail
          go_ret3
          exact ⟨a1, c1, av, cv, rfl, U1.out, N6.out, fun q hq e => by have h1 := f1_ q hq; have h2 := (hl6 q e).1; omega, HB.out⟩
      · go_wp2_with fail
        go_ret3
        exact ⟨a1, c1, _, 0, rfl, U1.out, U2.out, fun q hq e => by simp [Value.ownBlock] at e; have := (hl1 q hq).1; omega, HB.out⟩
  · have d11 := XA.out.at 11
    have d12 := XA.out.at 12
    have d13 := XA.out.at 13
    have d14 := XA.out.at 14
    set_option linter.unusedSimpArgs false in simp only [List.getElem?_cons_zero, List.getElem?_cons_succ] at d11 d12 d13 d14
    go_wp2_with fail
    refine (CN2.out _).mono ?_
    rintro e wm ⟨rfl, hb⟩
    have XA := Lib.hid (XA.out.below hb)
    have HB_ := Lib.hid (HB.out.trans (hb.mono HB.out.size))
    have U1 := Lib.hid (U1.out.below hb)
    have U2 := Lib.hid (U2.out.below hb)
    have hzn := hb.size
    try simp only [World.size_alloc] at hzn
    clear hb HB
    have HB := HB_
    clear HB_ d11 d12 d13 d14
    cases n2
    · obtain ⟨b2, hb2⟩ : ∃ b, P2.isSome = b := ⟨_, rfl⟩
      rw [hb2] at CL2
      go_upto_region 8 with fail
      refine wp_region_noPanic ?_
      refine wp_region_held_drew (S := fun W => BoxF W w.heap.size [.int .i64 i0, .int .i64 i1, .int .i64 i2, .int .i64 i3, .int .i64 i4, .int .i64 i5, .int .i64 i6, .int .i64 i7, .int .i64 i8, .int .i64 i9, .int .i64 i10, .int .i64 i11, .int .i64 i12, .int .i64 i13, .int .i64 i14] 60 ∧ Below w.heap.size w W ∧ OwnBx W w.heap.size (.slice (some ⟨w.heap.size + 1, 0, none⟩) 0 0) [] ∧ OwnBx W w.heap.size (.slice (some ⟨w.heap.size + 1 + 1, 0, none⟩) 0 0) []) (by kernel_rfl) ⟨XA.out, below_drewN' HB.out 1, U1.out, U2.out⟩ (fun hHeld => ?_)
      generalize wm.drew = Wd at *
      clear XA HB U1 U2
      refine wpAnyH_take (i := 0) rfl (by kernel_rfl) (by kernel_rfl) (by kernel_rfl) (fun _ _ _ h => h) (yieldsIf_load_mid (by rfl) 60 _ rfl w.heap.size 0 rfl [.int .i64 i0, .int .i64 i1, .int .i64 i2, .int .i64 i3, .int .i64 i4, .int .i64 i5, .int .i64 i6, .int .i64 i7, .int .i64 i8, .int .i64 i9, .int .i64 i10, .int .i64 i11, .int .i64 i12, .int .i64 i13, .int .i64 i14] _ (fun w h => rangeB h.1) Tryd.underlying60 rfl (by kernel_rfl)) hHeld ?_
      set_option linter.unusedSimpArgs false in try simp only [Act.put, List.setIfInBounds_toArray, List.set_cons_zero, List.set_cons_succ]
      refine wpAnyH_take (i := 2) (oi := { dst := some 38, op := _, type := _, pos := _, after := _, guard := _ }) (v := .pointer (some ⟨w.heap.size, 11, none⟩)) rfl (by kernel_rfl) (by kernel_rfl) (by kernel_rfl) (fun _ _ _ h => h) (Or.inl ⟨by rfl, ?_⟩) hHeld ?_
      · (intro w_ hSw; clear hSw; go_simp; first | done | with_reducible rfl | rfl | (intro h_; omega) | (simp only [IntKind.wrap, IntKind.bits, IntKind.signed]; omega) | (simp [IntKind.wrap, IntKind.bits, IntKind.signed]; omega))
      set_option linter.unusedSimpArgs false in try simp only [Act.put, List.setIfInBounds_toArray, List.set_cons_zero, List.set_cons_succ]
      refine wpAnyH_take (i := 3) (oi := { dst := some 39, op := _, type := _, pos := _, after := _, guard := _ }) (v := .pointer (some ⟨w.heap.size, 11, none⟩)) rfl (by kernel_rfl) (by kernel_rfl) (by kernel_rfl) (fun _ _ _ h => h) (Or.inl ⟨by rfl, ?_⟩) hHeld ?_
      · (intro w_ hSw; clear hSw; go_simp; first | done | with_reducible rfl | rfl | (intro h_; omega) | (simp only [IntKind.wrap, IntKind.bits, IntKind.signed]; omega) | (simp [IntKind.wrap, IntKind.bits, IntKind.signed]; omega))
      set_option linter.unusedSimpArgs false in try simp only [Act.put, List.setIfInBounds_toArray, List.set_cons_zero, List.set_cons_succ]
      refine wpAnyH_take (i := 4) (oi := { dst := some 40, op := _, type := _, pos := _, after := _, guard := _ }) (v := .int .i64 i11) rfl (by kernel_rfl) (by kernel_rfl) (by kernel_rfl) (fun _ _ _ h => h) (Or.inl ⟨by rfl, ?_⟩) hHeld ?_
      · (intro w_ hSw; have c_ := hSw.1.at 11; set_option linter.unusedSimpArgs false in simp only [List.getElem?_cons_zero, List.getElem?_cons_succ] at c_; clear hSw; go_simp; first | done | with_reducible rfl | rfl | (intro h_; omega) | (simp only [IntKind.wrap, IntKind.bits, IntKind.signed]; omega) | (simp [IntKind.wrap, IntKind.bits, IntKind.signed]; omega))
      set_option linter.unusedSimpArgs false in try simp only [Act.put, List.setIfInBounds_toArray, List.set_cons_zero, List.set_cons_succ]
      refine wpAnyH_ready (rs := [1]) (by kernel_rfl) (by simp) ?_
      refine AllReadyH.cons rfl (fun K hK => ?_) ?_
      rotate_left
      · exact AllReadyH.nil
      try rw [if_pos (by rfl)]
      go_simp
      refine (CR2.out _).mono ?_
      rintro e w5 ⟨g5, rfl, ho5, hb5⟩
      have g0 : BoxF w5 w.heap.size [.int .i64 i0, .int .i64 i1, .int .i64 i2, .int .i64 i3, .int .i64 i4, .int .i64 i5, .int .i64 i6, .int .i64 i7, .int .i64 i8, .int .i64 i9, .int .i64 i10, .int .i64 i11, .int .i64 i12, .int .i64 i13, .int .i64 i14] 60 ∧ Below w.heap.size w w5 ∧ OwnBx w5 w.heap.size (.slice (some ⟨w.heap.size + 1, 0, none⟩) 0 0) [] ∧ OwnBx w5 w.heap.size (.slice (some ⟨w.heap.size + 1 + 1, 0, none⟩) 0 0) [] := ⟨hHeld.1.below hb5, hHeld.2.1.trans (hb5.mono hHeld.2.1.size), hHeld.2.2.1.below hb5, hHeld.2.2.2.below hb5⟩
      have R5 := Lib.hid ho5.rd
      clear ho5 hb5
      go_wp2_with fail
      refine hK.out _ _ (g0) (fun hHeld => ?_)
      clear hK K
      set_option linter.unusedSimpArgs false in try simp only [Act.put, List.setIfInBounds_toArray, List.set_cons_zero, List.set_cons_succ]

      refine wpAnyH_ready (rs := [5]) (by kernel_rfl) (by simp) ?_
      refine AllReadyH.cons rfl (fun K hK => ?_) ?_
      rotate_left
      · exact AllReadyH.nil
      try rw [if_pos (by rfl)]
      go_simp
      refine (CL2.out _ _ _ R5.out).mono ?_
      rintro e w6 ⟨av, cv, rfl, ho6, hb6⟩
      have g1 : BoxF w6 w.heap.size [.int .i64 i0, .int .i64 i1, .int .i64 i2, .int .i64 i3, .int .i64 i4, .int .i64 i5, .int .i64 i6, .int .i64 i7, .int .i64 i8, .int .i64 i9, .int .i64 i10, .int .i64 i11, .int .i64 i12, .int .i64 i13, .int .i64 i14] 60 ∧ Below w.heap.size w w6 ∧ OwnBx w6 w.heap.size (.slice (some ⟨w.heap.size + 1, 0, none⟩) 0 0) [] ∧ OwnBx w6 w.heap.size (.slice (some ⟨w.heap.size + 1 + 1, 0, none⟩) 0 0) [] := ⟨g0.1.below hb6, g0.2.1.trans (hb6.mono g0.2.1.size), g0.2.2.1.below hb6, g0.2.2.2.below hb6⟩
      have hl6 := fun q hq => World.ownsRow.lt ho6 q hq
      have hz6 := g0.1.lt
      have N6 := Lib.hid (ho6.low g0.2.1.size)
      have f1_ := fun q hq => (World.ownsRow.lt g0.2.2.1 q hq).2
      have f2_ := fun q hq => (World.ownsRow.lt g0.2.2.2 q hq).2
      clear ho6 hb6 g0
      go_wp2_with fail
      refine hK.out _ _ (g1) (fun hHeld => ?_)
      clear hK K
      set_option linter.unusedSimpArgs false in try simp only [Act.put, List.setIfInBounds_toArray, List.set_cons_zero, List.set_cons_succ]

      refine wpAnyH_take (i := 6) (oi := { dst := some 35, op := _, type := _, pos := _, after := _, guard := _ }) (v := .tuple #[.slice av (P2.getD []).length cv, .bool b2]) rfl (by kernel_rfl) (by kernel_rfl) (by kernel_rfl) (fun _ _ _ h => h) (Or.inl ⟨by rfl, ?_⟩) hHeld ?_
      · (intro w_ hSw; clear hSw; go_simp; first | done | with_reducible rfl | rfl | (intro h_; omega) | (simp only [IntKind.wrap, IntKind.bits, IntKind.signed]; omega) | (simp [IntKind.wrap, IntKind.bits, IntKind.signed]; omega))
      set_option linter.unusedSimpArgs false in try simp only [Act.put, List.setIfInBounds_toArray, List.set_cons_zero, List.set_cons_succ]
      refine wpAnyH_take (i := 7) (oi := { dst := some 42, op := _, type := _, pos := _, after := _, guard := _ }) (v := .slice av (P2.getD []).length cv) rfl (by kernel_rfl) (by kernel_rfl) (by kernel_rfl) (fun _ _ _ h => h) (Or.inl ⟨by rfl, ?_⟩) hHeld ?_
      · (intro w_ hSw; clear hSw; go_simp; first | done | with_reducible rfl | rfl | (intro h_; omega) | (simp only [IntKind.wrap, IntKind.bits, IntKind.signed]; omega) | (simp [IntKind.wrap, IntKind.bits, IntKind.signed]; omega))
      set_option linter.unusedSimpArgs false in try simp only [Act.put, List.setIfInBounds_toArray, List.set_cons_zero, List.set_cons_succ]
      refine wpAnyH_take (i := 8) (oi := { dst := some 43, op := _, type := _, pos := _, after := _, guard := _ }) (v := .bool b2) rfl (by kernel_rfl) (by kernel_rfl) (by kernel_rfl) (fun _ _ _ h => h) (Or.inl ⟨by rfl, ?_⟩) hHeld ?_
      · (intro w_ hSw; clear hSw; go_simp; first | done | with_reducible rfl | rfl | (intro h_; omega) | (simp only [IntKind.wrap, IntKind.bits, IntKind.signed]; omega) | (simp [IntKind.wrap, IntKind.bits, IntKind.signed]; omega))
      set_option linter.unusedSimpArgs false in try simp only [Act.put, List.setIfInBounds_toArray, List.set_cons_zero, List.set_cons_succ]
      refine wpAnyH_take (i := 9) (oi := { dst := some 9, op := _, type := _, pos := _, after := _, guard := _ }) (v := .slice av (P2.getD []).length cv) rfl (by kernel_rfl) (by kernel_rfl) (by kernel_rfl) (fun _ _ _ h => h) (Or.inl ⟨by rfl, ?_⟩) hHeld ?_
      · (intro w_ hSw; clear hSw; go_simp; first | done | with_reducible rfl | rfl | (intro h_; omega) | (simp only [IntKind.wrap, IntKind.bits, IntKind.signed]; omega) | (simp [IntKind.wrap, IntKind.bits, IntKind.signed]; omega))
      set_option linter.unusedSimpArgs false in try simp only [Act.put, List.setIfInBounds_toArray, List.set_cons_zero, List.set_cons_succ]
      refine wpAnyH_take (i := 10) (oi := { dst := some 10, op := _, type := _, pos := _, after := _, guard := _ }) (v := .bool b2) rfl (by kernel_rfl) (by kernel_rfl) (by kernel_rfl) (fun _ _ _ h => h) (Or.inl ⟨by rfl, ?_⟩) hHeld ?_
      · (intro w_ hSw; clear hSw; go_simp; first | done | with_reducible rfl | rfl | (intro h_; omega) | (simp only [IntKind.wrap, IntKind.bits, IntKind.signed]; omega) | (simp [IntKind.wrap, IntKind.bits, IntKind.signed]; omega))
      set_option linter.unusedSimpArgs false in try simp only [Act.put, List.setIfInBounds_toArray, List.set_cons_zero, List.set_cons_succ]
      refine wpAnyH_done (by kernel_rfl) ?_ _
      refine NoPanic.normal ?_
      have XA := Lib.hid hHeld.1
      have HB := Lib.hid hHeld.2.1
      have U1 := Lib.hid hHeld.2.2.1
      have U2 := Lib.hid hHeld.2.2.2
      clear hHeld g1
      cases b2
      · have hP2 : P2 = none := by simpa using hb2
        subst hP2
        go_wp2_with fail
        go_ret3
        exact ansP_lit HB.out
      · obtain ⟨L2, rfl⟩ := Option.isSome_iff_exists.1 hb2
        simp only [Option.getD_some] at hl6 N6
        go_wp2_with fail
        go_ret3
        exact ⟨_, 0, av, cv, rfl, U1.out, N6.out, fun q hq e => by have h1 := f1_ q hq; have h2 := (hl6 q e).1; omega, HB.out⟩
    · go_wp2_with fail
      go_ret3
      exact ⟨_, 0, _, 0, rfl, U1.out, U2.out, fun q hq e => by simp [Value.ownBlock] at hq e; omega, HB.out⟩
end Go.Proofs.YthapidnjioindaaDoor
