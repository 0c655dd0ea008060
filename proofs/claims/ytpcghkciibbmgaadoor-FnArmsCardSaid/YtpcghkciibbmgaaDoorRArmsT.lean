/- Contract: the program's ArmsTinctures. -/
import Derived.Test.YtpcghkciibbmgaaDoorRArmsV
import Derived.Test.YtpcghkciibbmgaaDoorPlacesM
import Derived.Test.YtpcghkciibbmgaaDoorAgainst
import Derived.ArgAppend
namespace Go.Proofs.YtpcghkciibbmgaaDoor
open Go.RowKit

theorem armTL_len (d f s o x : Int) (z1 z2 : Bool) (t t' : Int) : (armTL d f s o x z1 z2 t t').length ≤ 1000 := by
  unfold armTL tincL
  by_cases q0 : d = 0 <;> by_cases q1 : 0 < o <;> cases z1 <;> cases z2 <;> simp [q0, q1]
set_option maxRecDepth 100000 in
set_option maxHeartbeats 8000000 in
theorem armsTinctures_impl_no (d l f s o n x c k a t c' k' a' t' : Int) (w : World) (h : aOkB d l f s o n x c k a t c' k' a' t' = false) (hA : AttsLie w) :
    Calls Tryd.prog 11 #[.agg #[.int .i64 d, .int .i64 l, .int .i64 f, .int .i64 s, .int .i64 o, .int .i64 n, .int .i64 x, .int .i64 c, .int .i64 k, .int .i64 a, .int .i64 t, .int .i64 c', .int .i64 k', .int .i64 a', .int .i64 t']] w (Ans w [] false) := by
  have CV := Lib.hid (fun W (hb : Below w.heap.size w W) => validArms_impl d l f s o n x c k a t c' k' a' t' W false h (hA.below hb))
  clear h hA
  have b_P := BoxF.new w [.int .i64 d, .int .i64 l, .int .i64 f, .int .i64 s, .int .i64 o, .int .i64 n, .int .i64 x, .int .i64 c, .int .i64 k, .int .i64 a, .int .i64 t, .int .i64 c', .int .i64 k', .int .i64 a', .int .i64 t'] 29
  have bb_ : Below w.heap.size w (w.alloc (.cells #[.int .i64 d, .int .i64 l, .int .i64 f, .int .i64 s, .int .i64 o, .int .i64 n, .int .i64 x, .int .i64 c, .int .i64 k, .int .i64 a, .int .i64 t, .int .i64 c', .int .i64 k', .int .i64 a', .int .i64 t'] 29 (0, 0))) := (Below.refl _ w).alloc (by first | exact Nat.le_refl _ | (simp; done) | (simp; omega)) (.cells #[.int .i64 d, .int .i64 l, .int .i64 f, .int .i64 s, .int .i64 o, .int .i64 n, .int .i64 x, .int .i64 c, .int .i64 k, .int .i64 a, .int .i64 t, .int .i64 c', .int .i64 k', .int .i64 a', .int .i64 t'] 29 (0, 0))
  have XP0 := Lib.hid b_P
  have BB0 := Lib.hid bb_
  clear bb_ b_P
  have b_P := XP0.out
  obtain ⟨x0, x1, x2, x3, x4, x5, x6, x7, x8, x9, x10, x11, x12, x13, x14, xf⟩ := b_P.fifteen
  clear b_P
  go_enter Tryd.func11, Tryd.ntmps11
  go_wp2_with fail
  refine (CV.out _ BB0.out).mono ?_
  rintro e w1 ⟨rfl, g1⟩
  clear x0 x1 x2 x3 x4 x5 x6 x7 x8 x9 x10 x11 x12 x13 x14 xf
  have XP1 := Lib.hid (XP0.out.below g1)
  have BB1 := Lib.hid (BB0.out.trans (g1.mono BB0.out.size))
  clear XP0 BB0 g1
  go_wp2_with fail
  go_ret2
  exact ⟨none, 0, rfl, ownI_nil _ _, BB1.out⟩
set_option maxRecDepth 100000 in
set_option maxHeartbeats 8000000 in
theorem armsTinctures_impl (d l f s o n x c k a t c' k' a' t' : Int) (w : World) (h : aOkB d l f s o n x c k a t c' k' a' t' = true) (hA : AttsLie w) :
    Calls Tryd.prog 11 #[.agg #[.int .i64 d, .int .i64 l, .int .i64 f, .int .i64 s, .int .i64 o, .int .i64 n, .int .i64 x, .int .i64 c, .int .i64 k, .int .i64 a, .int .i64 t, .int .i64 c', .int .i64 k', .int .i64 a', .int .i64 t']] w (Ans w (armTL d f s o x (gNoB c k a t) (gNoB c' k' a' t') t t') true) := by
  have hT := overL_tl h
  have CV := Lib.hid (fun W (hb : Below w.heap.size w W) => validArms_impl d l f s o n x c k a t c' k' a' t' W true h (hA.below hb))
  obtain ⟨i0, hi, hz0, hz1, hz2⟩ := info_parts infoI
  have hL1 := placesL_lt d o (gNoB c k a t) (gNoB c' k' a' t')
  have hL2 := placesL_len d o (gNoB c k a t) (gNoB c' k' a' t')
  have hL3 := placesL_pos d o (gNoB c k a t) (gNoB c' k' a' t')
  have cp := fun (b : Nat) W hW => places_any d l f s o n x c k a t c' k' a' t' b W hW
  clear h hA
  generalize armTL d f s o x (gNoB c k a t) (gNoB c' k' a' t') t t' = T at *
  generalize placesL d o (gNoB c k a t) (gNoB c' k' a' t') = L at *
  obtain ⟨q, hq⟩ : ∃ q, L.length = q := ⟨_, rfl⟩
  unfold Places at cp
  rw [hq] at hL2 hL3 cp
  have CP := Lib.hid cp
  have HL := Lib.hid hq
  have HLT := Lib.hid hL1
  clear cp hL1 hq
  have HT := Lib.hid hT
  have HX : Hid ([d, l, f, s, o, n, x, c, k, a, t, c', k', a', t'].length = 15) := Lib.hid rfl
  clear hT
  have b_P := BoxF.new w [.int .i64 d, .int .i64 l, .int .i64 f, .int .i64 s, .int .i64 o, .int .i64 n, .int .i64 x, .int .i64 c, .int .i64 k, .int .i64 a, .int .i64 t, .int .i64 c', .int .i64 k', .int .i64 a', .int .i64 t'] 29
  have bb_ : Below w.heap.size w (w.alloc (.cells #[.int .i64 d, .int .i64 l, .int .i64 f, .int .i64 s, .int .i64 o, .int .i64 n, .int .i64 x, .int .i64 c, .int .i64 k, .int .i64 a, .int .i64 t, .int .i64 c', .int .i64 k', .int .i64 a', .int .i64 t'] 29 (0, 0))) := (Below.refl _ w).alloc (by first | exact Nat.le_refl _ | (simp; done) | (simp; omega)) (.cells #[.int .i64 d, .int .i64 l, .int .i64 f, .int .i64 s, .int .i64 o, .int .i64 n, .int .i64 x, .int .i64 c, .int .i64 k, .int .i64 a, .int .i64 t, .int .i64 c', .int .i64 k', .int .i64 a', .int .i64 t'] 29 (0, 0))
  have XP0 := Lib.hid b_P
  have BB0 := Lib.hid bb_
  clear bb_ b_P
  have b_P := XP0.out
  obtain ⟨x0, x1, x2, x3, x4, x5, x6, x7, x8, x9, x10, x11, x12, x13, x14, xf⟩ := b_P.fifteen
  clear b_P
  go_enter Tryd.func11, Tryd.ntmps11
  go_wp2_with fail
  refine (CV.out _ BB0.out).mono ?_
  rintro e w1 ⟨rfl, g1⟩
  clear x0 x1 x2 x3 x4 x5 x6 x7 x8 x9 x10 x11 x12 x13 x14 xf
  have XP1 := Lib.hid (XP0.out.below g1)
  have BB1 := Lib.hid (BB0.out.trans (g1.mono BB0.out.size))
  clear XP0 BB0 g1
  have b_P := XP1.out
  obtain ⟨x0, x1, x2, x3, x4, x5, x6, x7, x8, x9, x10, x11, x12, x13, x14, xf⟩ := b_P.fifteen
  clear b_P
  go_wp2_with fail
  have X0 := BoxF.new w1 [.int .i64 d, .int .i64 l, .int .i64 f, .int .i64 s, .int .i64 o, .int .i64 n, .int .i64 x, .int .i64 c, .int .i64 k, .int .i64 a, .int .i64 t, .int .i64 c', .int .i64 k', .int .i64 a', .int .i64 t'] 60
  have B1 := BB1.out.alloc BB1.out.size (.cells #[.int .i64 d, .int .i64 l, .int .i64 f, .int .i64 s, .int .i64 o, .int .i64 n, .int .i64 x, .int .i64 c, .int .i64 k, .int .i64 a, .int .i64 t, .int .i64 c', .int .i64 k', .int .i64 a', .int .i64 t'] 60 (0, 0))
  have HXD := Lib.hid X0
  have HB := Lib.hid B1
  clear X0 B1
  clear x0 x1 x2 x3 x4 x5 x6 x7 x8 x9 x10 x11 x12 x13 x14 xf
  refine (CP.out _ _ HXD.out).mono ?_
  rintro e w2 ⟨ao, cap, rfl, ho, hnil, g2⟩
  obtain ⟨gp, cpp, hv, hge, hlt⟩ := World.ownsRow.form ho (by omega)
  cases hv
  have HP : Hid (∀ i j, L[i]? = some j → w2.cell? ⟨gp, i, none⟩ = some (.pointer (some ⟨w1.heap.size, j, none⟩))) := Lib.hid (fun i j hj => by
    have hi : i < L.length := (List.getElem?_eq_some_iff.1 hj).1
    have := HL.out
    exact (ho.cellAt i (by omega)).trans (ptrs_at hj))
  clear ho hnil
  have XD : Hid (BoxF w2 w1.heap.size ([d, l, f, s, o, n, x, c, k, a, t, c', k', a', t'].map (Value.int .i64)) 60) := Lib.hid (HXD.out.below g2)
  have B2 := Lib.hid (HB.out.trans (g2.mono HB.out.size))
  have hD : w1.heap.size < w2.heap.size := XD.out.lt
  have hgp : gp < w2.heap.size := hlt
  clear HXD HB g2 hge hlt XP1 BB1
  generalize w1.heap.size = D at *
  generalize [d, l, f, s, o, n, x, c, k, a, t, c', k', a', t'] = X at *
  go_wp2_with fail
  go_loopw [4, 15] (fun v i wr => ∃ r : Nat, r ≤ q ∧ i = .int .i64 r ∧ wr.ownsRow w2.heap.size 3 1 v ((L.take r).map fun j => X.getD j 0).length (((L.take r).map fun j => X.getD j 0).map (Value.int .i64)) ∧ Below w2.heap.size w2 wr) (fun _ i _ => q - (intOf i).toNat)
  case atStart => exact ⟨0, by omega, rfl, World.ownsRow_nil _ _ _ _, Below.refl _ _⟩
  case round =>
    obtain ⟨r, hk, rfl, ho, hb⟩ := hrel
    by_cases hlt : r < q
    · obtain ⟨j, hj, hm⟩ := atN_of_lt HL.out hlt
      have hj15 := HLT.out j hm
      have c1 := (hb.cell (p := ⟨gp, r, none⟩) hgp).trans (HP.out r j hj)
      have c2 := ((hb.cell (p := ⟨D, j, none⟩) hD).trans (XD.out.at j)).trans (getI (by have := HX.out; omega))
      have HS : Hid ((L.take (r + 1)).map (fun j => X.getD j 0) = (L.take r).map (fun j => X.getD j 0) ++ [X.getD j 0]) := Lib.hid (by rw [takeN_succ hj, List.map_append]; rfl)
      have hlen : ((L.take r).map fun j => X.getD j 0).length ≤ r := by rw [List.length_map, List.length_take]; omega
      clear hj hm
      generalize X.getD j 0 = z at *
      go_wp2_with (at_builtin; refine wpList_append_own _ rfl _ _ 35 rfl w2.heap.size 3 i0 (.int .i64 0) 1 8 Tryd.underlying35 hi hz0 hz1 hz2 rfl (by decide) _ _ _ rfl (ho.alloc _) ⟨wr.heap.size, 0, none⟩ 1 1 [.int .i64 z] rfl rfl (cell_one_new _ _ _) (fun x hx => by simp at hx; subst hx; rfl) (by unfold maxLen; omega) (by omega) (by have := hb.size; simp; omega) ?_; intro v' w3 hown' hgrow hnil)
      go_roundw
      case rel => exact ⟨r + 1, by omega, by go_num, sliceR (app_one hown') HS.out.symm, (hb.alloc hb.size _).grown hgrow (by have := hb.size; simp; omega) (fun q hq => by have := (ho.lt q hq).1; omega)⟩
      case measure => simp [intOf]; omega
    · have HK : Hid (L.take r = L) := Lib.hid (List.take_of_length_le (by have := HL.out; omega))
      rw [HK.out, HT.out] at ho
      obtain ⟨a0, cap0, rfl, hO⟩ := ownI_append ho
      have HO := Lib.hid (OwnI.low hO B2.out.size)
      have BE := Lib.hid (B2.out.trans (hb.mono B2.out.size))
      clear ho hO hb
      go_wp2_with fail
      go_ret2
      exact ⟨a0, cap0, rfl, HO.out, BE.out⟩
end Go.Proofs.YtpcghkciibbmgaaDoor
