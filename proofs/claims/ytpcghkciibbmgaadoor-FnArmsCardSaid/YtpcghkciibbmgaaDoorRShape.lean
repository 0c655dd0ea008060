/- Contract: the program's arms without their tinctures. -/
import Derived.Test.YtpcghkciibbmgaaDoorRArmsV
import Derived.Test.YtpcghkciibbmgaaDoorPlacesM
namespace Go.Proofs.YtpcghkciibbmgaaDoor
open Go.RowKit

set_option maxRecDepth 100000 in
set_option maxHeartbeats 8000000 in
theorem shapeOf_impl (d l f s o n x c k a t c' k' a' t' : Int) (w : World) (h : aOkB d l f s o n x c k a t c' k' a' t' = true) :
    Calls Tryd.prog 39 #[.agg #[.int .i64 d, .int .i64 l, .int .i64 f, .int .i64 s, .int .i64 o, .int .i64 n, .int .i64 x, .int .i64 c, .int .i64 k, .int .i64 a, .int .i64 t, .int .i64 c', .int .i64 k', .int .i64 a', .int .i64 t']] w fun e w' => e = .returned (.agg #[.int .i64 d, .int .i64 l, .int .i64 0, .int .i64 0, .int .i64 o, .int .i64 n, .int .i64 0, .int .i64 c, .int .i64 k, .int .i64 a, .int .i64 0, .int .i64 c', .int .i64 k', .int .i64 a', .int .i64 0]) ∧ Below w.heap.size w w' := by
  have hT := overL_ok (g := fun _ => 0) rfl h
  have hL1 := placesL_lt d o (gNoB c k a t) (gNoB c' k' a' t')
  have hL2 := placesL_len d o (gNoB c k a t) (gNoB c' k' a' t')
  have hL3 := placesL_pos d o (gNoB c k a t) (gNoB c' k' a' t')
  have cp := fun (b : Nat) W hW => places_any d l f s o n x c k a t c' k' a' t' b W hW
  clear h
  generalize placesL d o (gNoB c k a t) (gNoB c' k' a' t') = L at *
  obtain ⟨q, hq⟩ : ∃ q, L.length = q := ⟨_, rfl⟩
  unfold Places at cp
  rw [hq] at hL2 hL3 cp
  have CP := Lib.hid cp
  have HL := Lib.hid hq
  have HLT := Lib.hid hL1
  clear cp hL1 hq
  have HT := Lib.hid hT
  clear hT
  have b_P := (BoxF.new w [.int .i64 d, .int .i64 l, .int .i64 f, .int .i64 s, .int .i64 o, .int .i64 n, .int .i64 x, .int .i64 c, .int .i64 k, .int .i64 a, .int .i64 t, .int .i64 c', .int .i64 k', .int .i64 a', .int .i64 t'] 29).alloc (.cells #[.int .i64 0, .int .i64 0, .int .i64 0, .int .i64 0, .int .i64 0, .int .i64 0, .int .i64 0, .int .i64 0, .int .i64 0, .int .i64 0, .int .i64 0, .int .i64 0, .int .i64 0, .int .i64 0, .int .i64 0] 29 (0, 0))
  have b_R := BoxF.new (w.alloc (.cells #[.int .i64 d, .int .i64 l, .int .i64 f, .int .i64 s, .int .i64 o, .int .i64 n, .int .i64 x, .int .i64 c, .int .i64 k, .int .i64 a, .int .i64 t, .int .i64 c', .int .i64 k', .int .i64 a', .int .i64 t'] 29 (0, 0))) [.int .i64 0, .int .i64 0, .int .i64 0, .int .i64 0, .int .i64 0, .int .i64 0, .int .i64 0, .int .i64 0, .int .i64 0, .int .i64 0, .int .i64 0, .int .i64 0, .int .i64 0, .int .i64 0, .int .i64 0] 29
  simp only [World.size_alloc] at b_R
  have bb_ : Below w.heap.size w ((w.alloc (.cells #[.int .i64 d, .int .i64 l, .int .i64 f, .int .i64 s, .int .i64 o, .int .i64 n, .int .i64 x, .int .i64 c, .int .i64 k, .int .i64 a, .int .i64 t, .int .i64 c', .int .i64 k', .int .i64 a', .int .i64 t'] 29 (0, 0))).alloc (.cells #[.int .i64 0, .int .i64 0, .int .i64 0, .int .i64 0, .int .i64 0, .int .i64 0, .int .i64 0, .int .i64 0, .int .i64 0, .int .i64 0, .int .i64 0, .int .i64 0, .int .i64 0, .int .i64 0, .int .i64 0] 29 (0, 0))) := ((Below.refl _ w).alloc (by first | exact Nat.le_refl _ | (simp; done) | (simp; omega)) (.cells #[.int .i64 d, .int .i64 l, .int .i64 f, .int .i64 s, .int .i64 o, .int .i64 n, .int .i64 x, .int .i64 c, .int .i64 k, .int .i64 a, .int .i64 t, .int .i64 c', .int .i64 k', .int .i64 a', .int .i64 t'] 29 (0, 0))).alloc (by first | exact Nat.le_refl _ | (simp; done) | (simp; omega)) (.cells #[.int .i64 0, .int .i64 0, .int .i64 0, .int .i64 0, .int .i64 0, .int .i64 0, .int .i64 0, .int .i64 0, .int .i64 0, .int .i64 0, .int .i64 0, .int .i64 0, .int .i64 0, .int .i64 0, .int .i64 0] 29 (0, 0))
  have XP0 := Lib.hid b_P
  have XR0 := Lib.hid b_R
  have BB0 := Lib.hid bb_
  clear bb_ b_P b_R
  have b_P := XP0.out
  obtain ⟨x0, x1, x2, x3, x4, x5, x6, x7, x8, x9, x10, x11, x12, x13, x14, xf⟩ := b_P.fifteen
  clear b_P
  go_enter Tryd.func39, Tryd.ntmps39
  go_wp2_with fail
  clear x0 x1 x2 x3 x4 x5 x6 x7 x8 x9 x10 x11 x12 x13 x14 xf
  have X0 := BoxF.new ((w.alloc (.cells #[.int .i64 d, .int .i64 l, .int .i64 f, .int .i64 s, .int .i64 o, .int .i64 n, .int .i64 x, .int .i64 c, .int .i64 k, .int .i64 a, .int .i64 t, .int .i64 c', .int .i64 k', .int .i64 a', .int .i64 t'] 29 (0, 0))).alloc (.cells #[.int .i64 0, .int .i64 0, .int .i64 0, .int .i64 0, .int .i64 0, .int .i64 0, .int .i64 0, .int .i64 0, .int .i64 0, .int .i64 0, .int .i64 0, .int .i64 0, .int .i64 0, .int .i64 0, .int .i64 0] 29 (0, 0))) [.int .i64 d, .int .i64 l, .int .i64 f, .int .i64 s, .int .i64 o, .int .i64 n, .int .i64 x, .int .i64 c, .int .i64 k, .int .i64 a, .int .i64 t, .int .i64 c', .int .i64 k', .int .i64 a', .int .i64 t'] 60
  simp only [World.size_alloc] at X0
  have HXD := Lib.hid X0
  have HB := Lib.hid (BB0.out.alloc BB0.out.size (.cells #[.int .i64 d, .int .i64 l, .int .i64 f, .int .i64 s, .int .i64 o, .int .i64 n, .int .i64 x, .int .i64 c, .int .i64 k, .int .i64 a, .int .i64 t, .int .i64 c', .int .i64 k', .int .i64 a', .int .i64 t'] 60 (0, 0)))
  have HR := Lib.hid (XR0.out.alloc (.cells #[.int .i64 d, .int .i64 l, .int .i64 f, .int .i64 s, .int .i64 o, .int .i64 n, .int .i64 x, .int .i64 c, .int .i64 k, .int .i64 a, .int .i64 t, .int .i64 c', .int .i64 k', .int .i64 a', .int .i64 t'] 60 (0, 0)))
  clear X0 XP0 XR0 BB0
  refine (CP.out _ _ HXD.out).mono ?_
  rintro e w2 ⟨ao, cap, rfl, ho, hnil, g2⟩
  obtain ⟨gp, cpp, hv, hge, hlt⟩ := World.ownsRow.form ho (by omega)
  cases hv
  have HP : Hid (∀ i j, L[i]? = some j → w2.cell? ⟨gp, i, none⟩ = some (.pointer (some ⟨w.heap.size + 1 + 1, j, none⟩))) := Lib.hid (fun i j hj => by
    have hi : i < L.length := (List.getElem?_eq_some_iff.1 hj).1
    have := HL.out
    exact (ho.cellAt i (by omega)).trans (ptrs_at hj))
  clear ho hnil
  obtain ⟨D, hDe⟩ : ∃ D, w.heap.size + 1 + 1 = D := ⟨_, rfl⟩
  obtain ⟨R, hRe⟩ : ∃ R, w.heap.size + 1 = R := ⟨_, rfl⟩
  have hgp : D < gp := by simp at hge; omega
  have hRD : R ≠ D := by omega
  have hwR : w.heap.size ≤ R := by omega
  have hwD : w.heap.size ≤ D := by omega
  clear hge hlt
  rw [hDe] at HXD HP ⊢
  rw [hRe] at HR ⊢
  have XD : Hid (BoxF w2 D ([d, l, f, s, o, n, x, c, k, a, t, c', k', a', t'].map (Value.int .i64)) 60) := Lib.hid (HXD.out.below g2)
  have XR : Hid (BoxF w2 R [.int .i64 0, .int .i64 0, .int .i64 0, .int .i64 0, .int .i64 0, .int .i64 0, .int .i64 0, .int .i64 0, .int .i64 0, .int .i64 0, .int .i64 0, .int .i64 0, .int .i64 0, .int .i64 0, .int .i64 0] 29) := Lib.hid (HR.out.below g2)
  have B2 := Lib.hid (HB.out.trans (g2.mono HB.out.size))
  clear HXD HR HB g2
  have HX : Hid ([d, l, f, s, o, n, x, c, k, a, t, c', k', a', t'].length = 15) := Lib.hid rfl
  generalize [d, l, f, s, o, n, x, c, k, a, t, c', k', a', t'] = X at *
  go_wp2_with fail
  go_loopw [10] (fun i wr => ∃ r : Nat, r ≤ q ∧ i = .int .i64 r ∧ BoxF wr D ((overL (fun _ => 0) (L.take r) X).map (Value.int .i64)) 60 ∧ BoxF wr R [.int .i64 0, .int .i64 0, .int .i64 0, .int .i64 0, .int .i64 0, .int .i64 0, .int .i64 0, .int .i64 0, .int .i64 0, .int .i64 0, .int .i64 0, .int .i64 0, .int .i64 0, .int .i64 0, .int .i64 0] 29 ∧ (∀ i j, L[i]? = some j → wr.cell? ⟨gp, i, none⟩ = some (.pointer (some ⟨D, j, none⟩))) ∧ Below w.heap.size w wr) (fun i _ => q - (intOf i).toNat)
  case atStart => exact ⟨0, by omega, rfl, XD.out, XR.out, HP.out, B2.out⟩
  case round =>
    clear XD XR HP B2
    obtain ⟨r, hk, rfl, hd, hr, hp, hb⟩ := hrel
    by_cases hlt : r < q
    · obtain ⟨j, hj, hm⟩ := atN_of_lt HL.out hlt
      have hj15 := HLT.out j hm
      have c1 := hp r j hj
      have hlen : (overL (fun _ => 0) (L.take r) X).length = 15 := (overL_len _ _ _).trans HX.out
      have c2 := (hd.at j).trans (getI (by omega))
      have xf := hd.free j
      have HS := Lib.hid (overL_snoc (fun _ => 0) (L.take r) j X)
      rw [← takeN_succ hj] at HS
      have HD := Lib.hid hd
      have HR := Lib.hid hr
      have HP := Lib.hid hp
      have HB := Lib.hid hb
      clear hj hm hd hr hp hb hlen
      generalize overL (fun _ => 0) (L.take r) X = Y at *
      go_wp2_with fail
      go_roundw
      case rel => exact ⟨r + 1, by omega, by go_num, by rw [HS.out]; exact (setI Y j _) ▸ HD.out.set j _, HR.out.far j _ (by omega), fun i j' h' => (cset_b _ _ _ _ _ _ (by omega)).trans (HP.out i j' h'), HB.out.setCell (p := ⟨D, j, none⟩) (by show w.heap.size ≤ D; omega) _⟩
      case measure => simp [intOf]; omega

    · have HK : Hid (L.take r = L) := Lib.hid (List.take_of_length_le (by have := HL.out; omega))
      rw [HK.out, HT.out] at hd
      have hd : BoxF wr D [.int .i64 d, .int .i64 l, .int .i64 0, .int .i64 0, .int .i64 o, .int .i64 n, .int .i64 0, .int .i64 c, .int .i64 k, .int .i64 a, .int .i64 0, .int .i64 c', .int .i64 k', .int .i64 a', .int .i64 0] 60 := hd
      obtain ⟨x0, x1, x2, x3, x4, x5, x6, x7, x8, x9, x10, x11, x12, x13, x14, xf⟩ := hd.fifteen
      obtain ⟨z0, z1, z2, z3, z4, z5, z6, z7, z8, z9, z10, z11, z12, z13, z14, zf⟩ := hr.fifteen
      have HR := Lib.hid hr
      have HB := Lib.hid hb
      clear hd hr hp hb
      go_wp2_with fail
      clear x0 x1 x2 x3 x4 x5 x6 x7 x8 x9 x10 x11 x12 x13 x14 xf z0 z1 z2 z3 z4 z5 z6 z7 z8 z9 z10 z11 z12 z13 z14 zf
      have BR := BoxF.all15 (v0 := .int .i64 d) (v1 := .int .i64 l) (v2 := .int .i64 0) (v3 := .int .i64 0) (v4 := .int .i64 o) (v5 := .int .i64 n) (v6 := .int .i64 0) (v7 := .int .i64 c) (v8 := .int .i64 k) (v9 := .int .i64 a) (v10 := .int .i64 0) (v11 := .int .i64 c') (v12 := .int .i64 k') (v13 := .int .i64 a') (v14 := .int .i64 0) (HR.out)
      have BE := HB.out.grown (grown15 wr R (.int .i64 d) (.int .i64 l) (.int .i64 0) (.int .i64 0) (.int .i64 o) (.int .i64 n) (.int .i64 0) (.int .i64 c) (.int .i64 k) (.int .i64 a) (.int .i64 0) (.int .i64 c') (.int .i64 k') (.int .i64 a') (.int .i64 0)) HB.out.size (fun q e => by cases e; omega)
      generalize (((((((((((((((wr.setCell ⟨R, 0, none⟩ (.int .i64 d)).setCell ⟨R, 1, none⟩ (.int .i64 l)).setCell ⟨R, 2, none⟩ (.int .i64 0)).setCell ⟨R, 3, none⟩ (.int .i64 0)).setCell ⟨R, 4, none⟩ (.int .i64 o)).setCell ⟨R, 5, none⟩ (.int .i64 n)).setCell ⟨R, 6, none⟩ (.int .i64 0)).setCell ⟨R, 7, none⟩ (.int .i64 c)).setCell ⟨R, 8, none⟩ (.int .i64 k)).setCell ⟨R, 9, none⟩ (.int .i64 a)).setCell ⟨R, 10, none⟩ (.int .i64 0)).setCell ⟨R, 11, none⟩ (.int .i64 c')).setCell ⟨R, 12, none⟩ (.int .i64 k')).setCell ⟨R, 13, none⟩ (.int .i64 a')).setCell ⟨R, 14, none⟩ (.int .i64 0)) = WE at *
      obtain ⟨z0, z1, z2, z3, z4, z5, z6, z7, z8, z9, z10, z11, z12, z13, z14, zf⟩ := BR.fifteen
      exact bodyPost_ret (v := .agg #[.int .i64 d, .int .i64 l, .int .i64 0, .int .i64 0, .int .i64 o, .int .i64 n, .int .i64 0, .int .i64 c, .int .i64 k, .int .i64 a, .int .i64 0, .int .i64 c', .int .i64 k', .int .i64 a', .int .i64 0]) (by simp [results, Tryd.results39, go_sem, z0, z1, z2, z3, z4, z5, z6, z7, z8, z9, z10, z11, z12, z13, z14]) rfl ⟨rfl, BE⟩
end Go.Proofs.YtpcghkciibbmgaaDoor
