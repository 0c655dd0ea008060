/- Contract: the model's AllowedAt. -/
import Derived.Test.YtmmbhglmafnfpabDoorE8Allow
import Derived.Test.YtmmbhglmafnfpabDoorE8Spec
namespace Go.Proofs.YtmmbhglmafnfpabDoor
open Go.RowKit

/-- The box of arms, a row of numbers of the call's own, and all that was there. -/
def KI (w : World) (L : List Value) (v : Value) (X : List Int) (W : World) : Prop := BoxF W w.heap.size L 29 ∧ W.ownsRow (w.heap.size + 1) 3 1 v X.length (X.map (Value.int .i64)) ∧ Below w.heap.size w W
theorem KI.below {w W W' : World} {L : List Value} {v : Value} {X : List Int} (h : KI w L v X W) (hb : Below W.heap.size W W') : KI w L v X W' := ⟨h.1.below hb, rowBelow h.2.1 hb, h.2.2.trans (hb.mono h.2.2.size)⟩
theorem KI.app {w W W' : World} {L : List Value} {v v' : Value} {X Y : List Int} {y : Int} {n : Nat} {o : Obj} (h : KI w L v X W) (hg : (W.alloc o).grownBy W' v.ownBlock) (ho : W'.ownsRow (w.heap.size + 1) 3 1 v' n (X.map (Value.int .i64) ++ [.int .i64 y])) (e : Y = X ++ [y]) : KI w L v' Y W' := by
  have hs := h.2.2.size
  refine ⟨(h.1.alloc o).kept hg (fun e => by have := (World.ownsRow.lt h.2.1 _ e.symm).1; omega), sliceR (app_one ho) e.symm, (h.2.2.alloc hs _).grown hg (by simp; omega) (fun q hq => by have := (World.ownsRow.lt h.2.1 q hq).1; omega)⟩
set_option linter.unusedSimpArgs false in
set_option maxRecDepth 100000 in
set_option maxHeartbeats 8000000 in
theorem allowS_bad (d l f s o n x c k a t c' k' a' t' pl : Int) (w : World) (hr : aOkB d l f s o n x c k a t c' k' a' t' = false) :
    Calls Tryd.prog 9 #[.agg #[.int .i64 d, .int .i64 l, .int .i64 f, .int .i64 s, .int .i64 o, .int .i64 n, .int .i64 x, .int .i64 c, .int .i64 k, .int .i64 a, .int .i64 t, .int .i64 c', .int .i64 k', .int .i64 a', .int .i64 t'], .int .i64 pl] w (Ans w [] false) := by
  have K0 := Lib.hid (show KI w [.int .i64 d, .int .i64 l, .int .i64 f, .int .i64 s, .int .i64 o, .int .i64 n, .int .i64 x, .int .i64 c, .int .i64 k, .int .i64 a, .int .i64 t, .int .i64 c', .int .i64 k', .int .i64 a', .int .i64 t'] (.slice (some ⟨w.heap.size + 1, 0, none⟩) 0 0) [] ((w.alloc (.cells #[.int .i64 d, .int .i64 l, .int .i64 f, .int .i64 s, .int .i64 o, .int .i64 n, .int .i64 x, .int .i64 c, .int .i64 k, .int .i64 a, .int .i64 t, .int .i64 c', .int .i64 k', .int .i64 a', .int .i64 t'] 29 (0, 0))).alloc (.cells #[] 3 (0, 0))) from
    ⟨(BoxF.new w [.int .i64 d, .int .i64 l, .int .i64 f, .int .i64 s, .int .i64 o, .int .i64 n, .int .i64 x, .int .i64 c, .int .i64 k, .int .i64 a, .int .i64 t, .int .i64 c', .int .i64 k', .int .i64 a', .int .i64 t'] 29).alloc _, by
      have h_ := World.ownsRow_lit (e := 3) (size := 1) (base := w.heap.size + 1) (w.alloc (.cells #[.int .i64 d, .int .i64 l, .int .i64 f, .int .i64 s, .int .i64 o, .int .i64 n, .int .i64 x, .int .i64 c, .int .i64 k, .int .i64 a, .int .i64 t, .int .i64 c', .int .i64 k', .int .i64 a', .int .i64 t'] 29 (0, 0))) #[] 0 (by simp) (by unfold maxLen; omega) rfl
      rw [World.size_alloc] at h_
      exact h_, ((Below.refl _ w).alloc (Nat.le_refl _) _).alloc (by simp) _⟩)
  have CG := Lib.hid (fun W => l5Good_any d l f s o n x c k a t c' k' a' t' W false hr)
  have r0 := K0.out.1.range
  clear hr
  go_enter Tryd.func9, Tryd.ntmps9
  go_wp2_with (with_reducible refine isList ?_; refine ld15 2 w.heap.size [.int .i64 d, .int .i64 l, .int .i64 f, .int .i64 s, .int .i64 o, .int .i64 n, .int .i64 x, .int .i64 c, .int .i64 k, .int .i64 a, .int .i64 t, .int .i64 c', .int .i64 k', .int .i64 a', .int .i64 t'] rfl rfl rfl rfl ?_ ?_; exact r0)
  refine (CG.out _).mono ?_
  rintro e w1 ⟨rfl, h1⟩
  have K1 := Lib.hid (K0.out.below h1)
  clear h1 r0 K0
  go_wp2_with fail
  go_ret2
  exact ⟨_, _, rfl, OwnI.low (B := w.heap.size + 1) (X := []) K1.out.2.1 (by omega), K1.out.2.2⟩
set_option linter.unusedSimpArgs false in
set_option maxRecDepth 100000 in
set_option maxHeartbeats 8000000 in
theorem allowS_place (d l f s o n x c k a t c' k' a' t' pl : Int) (w : World) (hr : aOkB d l f s o n x c k a t c' k' a' t' = true) (hp : decide (1 ≤ pl ∧ pl ≤ 3) = false) :
    Calls Tryd.prog 9 #[.agg #[.int .i64 d, .int .i64 l, .int .i64 f, .int .i64 s, .int .i64 o, .int .i64 n, .int .i64 x, .int .i64 c, .int .i64 k, .int .i64 a, .int .i64 t, .int .i64 c', .int .i64 k', .int .i64 a', .int .i64 t'], .int .i64 pl] w (Ans w [] false) := by
  have CI := Lib.hid (fun W => l1In_any pl 1 3 W false hp)
  clear hp
  have K0 := Lib.hid (show KI w [.int .i64 d, .int .i64 l, .int .i64 f, .int .i64 s, .int .i64 o, .int .i64 n, .int .i64 x, .int .i64 c, .int .i64 k, .int .i64 a, .int .i64 t, .int .i64 c', .int .i64 k', .int .i64 a', .int .i64 t'] (.slice (some ⟨w.heap.size + 1, 0, none⟩) 0 0) [] ((w.alloc (.cells #[.int .i64 d, .int .i64 l, .int .i64 f, .int .i64 s, .int .i64 o, .int .i64 n, .int .i64 x, .int .i64 c, .int .i64 k, .int .i64 a, .int .i64 t, .int .i64 c', .int .i64 k', .int .i64 a', .int .i64 t'] 29 (0, 0))).alloc (.cells #[] 3 (0, 0))) from
    ⟨(BoxF.new w [.int .i64 d, .int .i64 l, .int .i64 f, .int .i64 s, .int .i64 o, .int .i64 n, .int .i64 x, .int .i64 c, .int .i64 k, .int .i64 a, .int .i64 t, .int .i64 c', .int .i64 k', .int .i64 a', .int .i64 t'] 29).alloc _, by
      have h_ := World.ownsRow_lit (e := 3) (size := 1) (base := w.heap.size + 1) (w.alloc (.cells #[.int .i64 d, .int .i64 l, .int .i64 f, .int .i64 s, .int .i64 o, .int .i64 n, .int .i64 x, .int .i64 c, .int .i64 k, .int .i64 a, .int .i64 t, .int .i64 c', .int .i64 k', .int .i64 a', .int .i64 t'] 29 (0, 0))) #[] 0 (by simp) (by unfold maxLen; omega) rfl
      rw [World.size_alloc] at h_
      exact h_, ((Below.refl _ w).alloc (Nat.le_refl _) _).alloc (by simp) _⟩)
  have CG := Lib.hid (fun W => l5Good_any d l f s o n x c k a t c' k' a' t' W true hr)
  have r0 := K0.out.1.range
  clear hr
  go_enter Tryd.func9, Tryd.ntmps9
  go_wp2_with (with_reducible refine isList ?_; refine ld15 2 w.heap.size [.int .i64 d, .int .i64 l, .int .i64 f, .int .i64 s, .int .i64 o, .int .i64 n, .int .i64 x, .int .i64 c, .int .i64 k, .int .i64 a, .int .i64 t, .int .i64 c', .int .i64 k', .int .i64 a', .int .i64 t'] rfl rfl rfl rfl ?_ ?_; exact r0)
  refine (CG.out _).mono ?_
  rintro e w1 ⟨rfl, h1⟩
  have K1 := Lib.hid (K0.out.below h1)
  clear h1 r0 K0
  go_wp2_with fail
  refine (CI.out _).mono ?_
  rintro e w2 ⟨rfl, rfl⟩
  go_wp2_with fail
  go_ret2
  exact ⟨_, _, rfl, OwnI.low (B := w.heap.size + 1) (X := []) K1.out.2.1 (by omega), K1.out.2.2⟩
set_option linter.unusedSimpArgs false in
set_option maxRecDepth 100000 in
set_option maxHeartbeats 8000000 in
theorem allowS_none1o0 (d l f s o n x c k a t c' k' a' t' : Int) (w : World) (hr : aOkB d l f s o n x c k a t c' k' a' t' = true) (h0 : (o == 0) = true) :
    Calls Tryd.prog 9 #[.agg #[.int .i64 d, .int .i64 l, .int .i64 f, .int .i64 s, .int .i64 o, .int .i64 n, .int .i64 x, .int .i64 c, .int .i64 k, .int .i64 a, .int .i64 t, .int .i64 c', .int .i64 k', .int .i64 a', .int .i64 t'], .int .i64 1] w (Ans w [] false) := by
  have CI := Lib.hid (fun W => l1In_any 1 1 3 W true (by decide))
  have K0 := Lib.hid (show KI w [.int .i64 d, .int .i64 l, .int .i64 f, .int .i64 s, .int .i64 o, .int .i64 n, .int .i64 x, .int .i64 c, .int .i64 k, .int .i64 a, .int .i64 t, .int .i64 c', .int .i64 k', .int .i64 a', .int .i64 t'] (.slice (some ⟨w.heap.size + 1, 0, none⟩) 0 0) [] ((w.alloc (.cells #[.int .i64 d, .int .i64 l, .int .i64 f, .int .i64 s, .int .i64 o, .int .i64 n, .int .i64 x, .int .i64 c, .int .i64 k, .int .i64 a, .int .i64 t, .int .i64 c', .int .i64 k', .int .i64 a', .int .i64 t'] 29 (0, 0))).alloc (.cells #[] 3 (0, 0))) from
    ⟨(BoxF.new w [.int .i64 d, .int .i64 l, .int .i64 f, .int .i64 s, .int .i64 o, .int .i64 n, .int .i64 x, .int .i64 c, .int .i64 k, .int .i64 a, .int .i64 t, .int .i64 c', .int .i64 k', .int .i64 a', .int .i64 t'] 29).alloc _, by
      have h_ := World.ownsRow_lit (e := 3) (size := 1) (base := w.heap.size + 1) (w.alloc (.cells #[.int .i64 d, .int .i64 l, .int .i64 f, .int .i64 s, .int .i64 o, .int .i64 n, .int .i64 x, .int .i64 c, .int .i64 k, .int .i64 a, .int .i64 t, .int .i64 c', .int .i64 k', .int .i64 a', .int .i64 t'] 29 (0, 0))) #[] 0 (by simp) (by unfold maxLen; omega) rfl
      rw [World.size_alloc] at h_
      exact h_, ((Below.refl _ w).alloc (Nat.le_refl _) _).alloc (by simp) _⟩)
  have CG := Lib.hid (fun W => l5Good_any d l f s o n x c k a t c' k' a' t' W true hr)
  have r0 := K0.out.1.range
  clear hr
  go_enter Tryd.func9, Tryd.ntmps9
  go_wp2_with (with_reducible refine isList ?_; refine ld15 2 w.heap.size [.int .i64 d, .int .i64 l, .int .i64 f, .int .i64 s, .int .i64 o, .int .i64 n, .int .i64 x, .int .i64 c, .int .i64 k, .int .i64 a, .int .i64 t, .int .i64 c', .int .i64 k', .int .i64 a', .int .i64 t'] rfl rfl rfl rfl ?_ ?_; exact r0)
  refine (CG.out _).mono ?_
  rintro e w1 ⟨rfl, h1⟩
  have K1 := Lib.hid (K0.out.below h1)
  clear h1 r0 K0
  go_wp2_with fail
  refine (CI.out _).mono ?_
  rintro e w2 ⟨rfl, rfl⟩
  have bx := K1.out.1
  obtain ⟨x0, x1, x2, x3, x4, x5, x6, x7, x8, x9, x10, x11, x12, x13, x14, xf⟩ := bx.fifteen
  clear bx
  go_wp2_with fail
  go_ret2
  exact ⟨_, _, rfl, OwnI.low (B := w.heap.size + 1) (X := []) K1.out.2.1 (by omega), K1.out.2.2⟩
set_option linter.unusedSimpArgs false in
set_option maxRecDepth 100000 in
set_option maxHeartbeats 8000000 in
theorem allowS_there1 (d l f s o n x c k a t c' k' a' t' : Int) (w : World) (hr : aOkB d l f s o n x c k a t c' k' a' t' = true) (h0 : (o == 0) = false) :
    Calls Tryd.prog 9 #[.agg #[.int .i64 d, .int .i64 l, .int .i64 f, .int .i64 s, .int .i64 o, .int .i64 n, .int .i64 x, .int .i64 c, .int .i64 k, .int .i64 a, .int .i64 t, .int .i64 c', .int .i64 k', .int .i64 a', .int .i64 t'], .int .i64 1] w (Ans w (alL (fun y => onL y (tincL d f s)) 9) true) := by
  obtain ⟨i0, hi, hz0, hz1, hz2⟩ := info_parts infoI
  have CI := Lib.hid (fun W => l1In_any 1 1 3 W true (by decide))
  have CO := Lib.hid (fun (y : Int) W => l8OnField_any d l f s y W)
  have K0 := Lib.hid (show KI w [.int .i64 d, .int .i64 l, .int .i64 f, .int .i64 s, .int .i64 o, .int .i64 n, .int .i64 x, .int .i64 c, .int .i64 k, .int .i64 a, .int .i64 t, .int .i64 c', .int .i64 k', .int .i64 a', .int .i64 t'] (.slice (some ⟨w.heap.size + 1, 0, none⟩) 0 0) [] ((w.alloc (.cells #[.int .i64 d, .int .i64 l, .int .i64 f, .int .i64 s, .int .i64 o, .int .i64 n, .int .i64 x, .int .i64 c, .int .i64 k, .int .i64 a, .int .i64 t, .int .i64 c', .int .i64 k', .int .i64 a', .int .i64 t'] 29 (0, 0))).alloc (.cells #[] 3 (0, 0))) from
    ⟨(BoxF.new w [.int .i64 d, .int .i64 l, .int .i64 f, .int .i64 s, .int .i64 o, .int .i64 n, .int .i64 x, .int .i64 c, .int .i64 k, .int .i64 a, .int .i64 t, .int .i64 c', .int .i64 k', .int .i64 a', .int .i64 t'] 29).alloc _, by
      have h_ := World.ownsRow_lit (e := 3) (size := 1) (base := w.heap.size + 1) (w.alloc (.cells #[.int .i64 d, .int .i64 l, .int .i64 f, .int .i64 s, .int .i64 o, .int .i64 n, .int .i64 x, .int .i64 c, .int .i64 k, .int .i64 a, .int .i64 t, .int .i64 c', .int .i64 k', .int .i64 a', .int .i64 t'] 29 (0, 0))) #[] 0 (by simp) (by unfold maxLen; omega) rfl
      rw [World.size_alloc] at h_
      exact h_, ((Below.refl _ w).alloc (Nat.le_refl _) _).alloc (by simp) _⟩)
  have CG := Lib.hid (fun W => l5Good_any d l f s o n x c k a t c' k' a' t' W true hr)
  have r0 := K0.out.1.range
  clear hr
  go_enter Tryd.func9, Tryd.ntmps9
  go_wp2_with (with_reducible refine isList ?_; refine ld15 2 w.heap.size [.int .i64 d, .int .i64 l, .int .i64 f, .int .i64 s, .int .i64 o, .int .i64 n, .int .i64 x, .int .i64 c, .int .i64 k, .int .i64 a, .int .i64 t, .int .i64 c', .int .i64 k', .int .i64 a', .int .i64 t'] rfl rfl rfl rfl ?_ ?_; exact r0)
  refine (CG.out _).mono ?_
  rintro e w1 ⟨rfl, h1⟩
  have K1 := Lib.hid (K0.out.below h1)
  clear h1 r0 K0
  go_wp2_with fail
  refine (CI.out _).mono ?_
  rintro e w2 ⟨rfl, rfl⟩
  have bx := K1.out.1
  obtain ⟨x0, x1, x2, x3, x4, x5, x6, x7, x8, x9, x10, x11, x12, x13, x14, xf⟩ := bx.fifteen
  clear bx
  go_wp2_with fail
  clear x0 x1 x2 x3 x4 x5 x6 x7 x8 x9 x10 x11 x12 x13 x14 xf
  go_loopw [6, 7] (fun v y wr => ∃ m : Nat, m ≤ 9 ∧ y = .int .i64 ((m : Int) + 1) ∧ KI w [.int .i64 d, .int .i64 l, .int .i64 f, .int .i64 s, .int .i64 o, .int .i64 n, .int .i64 x, .int .i64 c, .int .i64 k, .int .i64 a, .int .i64 t, .int .i64 c', .int .i64 k', .int .i64 a', .int .i64 t'] v (alL (fun y => onL y (tincL d f s)) m) wr) (fun _ y _ => 10 - (intOf y).toNat)
  case atStart => exact ⟨0, by omega, rfl, K1.out⟩
  case round =>
    obtain ⟨m, hm, rfl, hk⟩ := hrel
    have HK := Lib.hid hk
    clear hk
    by_cases hlt : m < 9
    · have hl := alL_len (fun y => onL y (tincL d f s)) m
      have bx := HK.out.1
      obtain ⟨x0, x1, x2, x3, x4, x5, x6, x7, x8, x9, x10, x11, x12, x13, x14, xf⟩ := bx.fifteen
      clear bx
      obtain ⟨r, hr⟩ : ∃ r, (fun y => onL y (tincL d f s)) ((m : Int) + 1) = r := ⟨_, rfl⟩
      have HA0 : r = false → alL (fun y => onL y (tincL d f s)) (m + 1) = alL (fun y => onL y (tincL d f s)) m ++ [(m : Int) + 1] := fun e => alL_in (p := fun y => onL y (tincL d f s)) (hr.trans e)
      have HA1 : r = true → alL (fun y => onL y (tincL d f s)) (m + 1) = alL (fun y => onL y (tincL d f s)) m := fun e => alL_out (p := fun y => onL y (tincL d f s)) (hr.trans e)
      have COm := Lib.hid (fun W => by have h_ := CO.out ((m : Int) + 1) W; rw [show onL ((m : Int) + 1) (tincL d f s) = r from hr] at h_; exact h_)
      clear hr
      go_wp2_with fail
      refine (COm.out _).mono ?_
      rintro e w4 ⟨rfl, h4⟩
      have HK4 := Lib.hid (HK.out.below h4)
      clear h4 HK
      clear x0 x1 x2 x3 x4 x5 x6 x7 x8 x9 x10 x11 x12 x13 x14 xf
      have bs := HK4.out.2.2.size
      have bl := HK4.out.1.lt
      cases r
      · have HA := Lib.hid (HA0 rfl)
        clear HA0 HA1
        go_wp2_with (at_builtin; refine wpList_append_own_at _ rfl _ _ 32 rfl (w.heap.size + 1) 3 i0 (.int .i64 0) 1 8 Tryd.underlying32 hi hz0 hz1 hz2 rfl (by decide) _ _ _ rfl (HK4.out.2.1.alloc _) ⟨w4.heap.size, 0, none⟩ 1 1 [.int .i64 ((m : Int) + 1)] rfl rfl (cell_one_new _ _ _) (fun x hx => by simp at hx; subst hx; rfl) (by unfold maxLen; omega) (by omega) (by simp; omega) ?_; intro v' w6 hown' hgrow hnil hat)
        go_roundw
        case rel => exact ⟨m + 1, by omega, by go_num, KI.app HK4.out hgrow hown' HA.out⟩
        case measure => simp [intOf]; omega
      · have HA := Lib.hid (HA1 rfl)
        clear HA0 HA1
        go_wp2_with fail
        go_roundw
        case rel => exact ⟨m + 1, by omega, by go_num, by rw [HA.out]; exact HK4.out⟩
        case measure => simp [intOf]; omega
    · obtain ⟨a0, cap0, rfl, hO⟩ := ownI_append HK.out.2.1
      have HO := Lib.hid (OwnI.low hO (B' := w.heap.size) (by omega))
      clear hO
      have HB := Lib.hid HK.out.2.2
      go_wp2_with fail
      go_ret2
      have e9 : m = 9 := by omega
      subst e9
      exact ⟨a0, cap0, rfl, HO.out, HB.out⟩
set_option linter.unusedSimpArgs false in
set_option maxRecDepth 100000 in
set_option maxHeartbeats 8000000 in
theorem allowS_none2o0 (d l f s o n x c k a t c' k' a' t' : Int) (w : World) (hr : aOkB d l f s o n x c k a t c' k' a' t' = true) (h0 : (o == 0) = true) :
    Calls Tryd.prog 9 #[.agg #[.int .i64 d, .int .i64 l, .int .i64 f, .int .i64 s, .int .i64 o, .int .i64 n, .int .i64 x, .int .i64 c, .int .i64 k, .int .i64 a, .int .i64 t, .int .i64 c', .int .i64 k', .int .i64 a', .int .i64 t'], .int .i64 2] w (Ans w [] false) := by
  have CI := Lib.hid (fun W => l1In_any 2 1 3 W true (by decide))
  have K0 := Lib.hid (show KI w [.int .i64 d, .int .i64 l, .int .i64 f, .int .i64 s, .int .i64 o, .int .i64 n, .int .i64 x, .int .i64 c, .int .i64 k, .int .i64 a, .int .i64 t, .int .i64 c', .int .i64 k', .int .i64 a', .int .i64 t'] (.slice (some ⟨w.heap.size + 1, 0, none⟩) 0 0) [] ((w.alloc (.cells #[.int .i64 d, .int .i64 l, .int .i64 f, .int .i64 s, .int .i64 o, .int .i64 n, .int .i64 x, .int .i64 c, .int .i64 k, .int .i64 a, .int .i64 t, .int .i64 c', .int .i64 k', .int .i64 a', .int .i64 t'] 29 (0, 0))).alloc (.cells #[] 3 (0, 0))) from
    ⟨(BoxF.new w [.int .i64 d, .int .i64 l, .int .i64 f, .int .i64 s, .int .i64 o, .int .i64 n, .int .i64 x, .int .i64 c, .int .i64 k, .int .i64 a, .int .i64 t, .int .i64 c', .int .i64 k', .int .i64 a', .int .i64 t'] 29).alloc _, by
      have h_ := World.ownsRow_lit (e := 3) (size := 1) (base := w.heap.size + 1) (w.alloc (.cells #[.int .i64 d, .int .i64 l, .int .i64 f, .int .i64 s, .int .i64 o, .int .i64 n, .int .i64 x, .int .i64 c, .int .i64 k, .int .i64 a, .int .i64 t, .int .i64 c', .int .i64 k', .int .i64 a', .int .i64 t'] 29 (0, 0))) #[] 0 (by simp) (by unfold maxLen; omega) rfl
      rw [World.size_alloc] at h_
      exact h_, ((Below.refl _ w).alloc (Nat.le_refl _) _).alloc (by simp) _⟩)
  have CG := Lib.hid (fun W => l5Good_any d l f s o n x c k a t c' k' a' t' W true hr)
  have r0 := K0.out.1.range
  clear hr
  go_enter Tryd.func9, Tryd.ntmps9
  go_wp2_with (with_reducible refine isList ?_; refine ld15 2 w.heap.size [.int .i64 d, .int .i64 l, .int .i64 f, .int .i64 s, .int .i64 o, .int .i64 n, .int .i64 x, .int .i64 c, .int .i64 k, .int .i64 a, .int .i64 t, .int .i64 c', .int .i64 k', .int .i64 a', .int .i64 t'] rfl rfl rfl rfl ?_ ?_; exact r0)
  refine (CG.out _).mono ?_
  rintro e w1 ⟨rfl, h1⟩
  have K1 := Lib.hid (K0.out.below h1)
  clear h1 r0 K0
  go_wp2_with fail
  refine (CI.out _).mono ?_
  rintro e w2 ⟨rfl, rfl⟩
  have bx := K1.out.1
  obtain ⟨x0, x1, x2, x3, x4, x5, x6, x7, x8, x9, x10, x11, x12, x13, x14, xf⟩ := bx.fifteen
  clear bx
  go_wp2_with fail
  go_ret2
  exact ⟨_, _, rfl, OwnI.low (B := w.heap.size + 1) (X := []) K1.out.2.1 (by omega), K1.out.2.2⟩
set_option linter.unusedSimpArgs false in
set_option maxRecDepth 100000 in
set_option maxHeartbeats 8000000 in
theorem allowS_none2g (d l f s o n x c k a t c' k' a' t' : Int) (w : World) (hr : aOkB d l f s o n x c k a t c' k' a' t' = true) (h0 : (o == 0) = false) (hg : gNoB c k a t = true) :
    Calls Tryd.prog 9 #[.agg #[.int .i64 d, .int .i64 l, .int .i64 f, .int .i64 s, .int .i64 o, .int .i64 n, .int .i64 x, .int .i64 c, .int .i64 k, .int .i64 a, .int .i64 t, .int .i64 c', .int .i64 k', .int .i64 a', .int .i64 t'], .int .i64 2] w (Ans w [] false) := by
  have CI := Lib.hid (fun W => l1In_any 2 1 3 W true (by decide))
  have CN := Lib.hid (fun W => l4None_any c k a t W true hg)
  clear hg
  have K0 := Lib.hid (show KI w [.int .i64 d, .int .i64 l, .int .i64 f, .int .i64 s, .int .i64 o, .int .i64 n, .int .i64 x, .int .i64 c, .int .i64 k, .int .i64 a, .int .i64 t, .int .i64 c', .int .i64 k', .int .i64 a', .int .i64 t'] (.slice (some ⟨w.heap.size + 1, 0, none⟩) 0 0) [] ((w.alloc (.cells #[.int .i64 d, .int .i64 l, .int .i64 f, .int .i64 s, .int .i64 o, .int .i64 n, .int .i64 x, .int .i64 c, .int .i64 k, .int .i64 a, .int .i64 t, .int .i64 c', .int .i64 k', .int .i64 a', .int .i64 t'] 29 (0, 0))).alloc (.cells #[] 3 (0, 0))) from
    ⟨(BoxF.new w [.int .i64 d, .int .i64 l, .int .i64 f, .int .i64 s, .int .i64 o, .int .i64 n, .int .i64 x, .int .i64 c, .int .i64 k, .int .i64 a, .int .i64 t, .int .i64 c', .int .i64 k', .int .i64 a', .int .i64 t'] 29).alloc _, by
      have h_ := World.ownsRow_lit (e := 3) (size := 1) (base := w.heap.size + 1) (w.alloc (.cells #[.int .i64 d, .int .i64 l, .int .i64 f, .int .i64 s, .int .i64 o, .int .i64 n, .int .i64 x, .int .i64 c, .int .i64 k, .int .i64 a, .int .i64 t, .int .i64 c', .int .i64 k', .int .i64 a', .int .i64 t'] 29 (0, 0))) #[] 0 (by simp) (by unfold maxLen; omega) rfl
      rw [World.size_alloc] at h_
      exact h_, ((Below.refl _ w).alloc (Nat.le_refl _) _).alloc (by simp) _⟩)
  have CG := Lib.hid (fun W => l5Good_any d l f s o n x c k a t c' k' a' t' W true hr)
  have r0 := K0.out.1.range
  clear hr
  go_enter Tryd.func9, Tryd.ntmps9
  go_wp2_with (with_reducible refine isList ?_; refine ld15 2 w.heap.size [.int .i64 d, .int .i64 l, .int .i64 f, .int .i64 s, .int .i64 o, .int .i64 n, .int .i64 x, .int .i64 c, .int .i64 k, .int .i64 a, .int .i64 t, .int .i64 c', .int .i64 k', .int .i64 a', .int .i64 t'] rfl rfl rfl rfl ?_ ?_; exact r0)
  refine (CG.out _).mono ?_
  rintro e w1 ⟨rfl, h1⟩
  have K1 := Lib.hid (K0.out.below h1)
  clear h1 r0 K0
  go_wp2_with fail
  refine (CI.out _).mono ?_
  rintro e w2 ⟨rfl, rfl⟩
  have bx := K1.out.1
  obtain ⟨x0, x1, x2, x3, x4, x5, x6, x7, x8, x9, x10, x11, x12, x13, x14, xf⟩ := bx.fifteen
  clear bx
  go_wp2_with fail
  refine (CN.out _).mono ?_
  rintro e w3 ⟨rfl, h3⟩
  have K2 := Lib.hid (K1.out.below h3)
  clear h3 K1
  clear x0 x1 x2 x3 x4 x5 x6 x7 x8 x9 x10 x11 x12 x13 x14 xf
  go_wp2_with fail
  go_ret2
  exact ⟨_, _, rfl, OwnI.low (B := w.heap.size + 1) (X := []) K2.out.2.1 (by omega), K2.out.2.2⟩
set_option linter.unusedSimpArgs false in
set_option maxRecDepth 100000 in
set_option maxHeartbeats 8000000 in
theorem allowS_there2 (d l f s o n x c k a t c' k' a' t' : Int) (w : World) (hr : aOkB d l f s o n x c k a t c' k' a' t' = true) (h0 : (o == 0) = false) (hg : gNoB c k a t = false) :
    Calls Tryd.prog 9 #[.agg #[.int .i64 d, .int .i64 l, .int .i64 f, .int .i64 s, .int .i64 o, .int .i64 n, .int .i64 x, .int .i64 c, .int .i64 k, .int .i64 a, .int .i64 t, .int .i64 c', .int .i64 k', .int .i64 a', .int .i64 t'], .int .i64 2] w (Ans w (alL (fun y => clashB y x) 9) true) := by
  obtain ⟨i0, hi, hz0, hz1, hz2⟩ := info_parts infoI
  have CI := Lib.hid (fun W => l1In_any 2 1 3 W true (by decide))
  have CN := Lib.hid (fun W => l4None_any c k a t W false hg)
  clear hg
  have CO := Lib.hid (fun (y : Int) W => l8OnField_any d l f s y W)
  have CC := Lib.hid (fun (y : Int) W => l2Clash_any y x W)
  have K0 := Lib.hid (show KI w [.int .i64 d, .int .i64 l, .int .i64 f, .int .i64 s, .int .i64 o, .int .i64 n, .int .i64 x, .int .i64 c, .int .i64 k, .int .i64 a, .int .i64 t, .int .i64 c', .int .i64 k', .int .i64 a', .int .i64 t'] (.slice (some ⟨w.heap.size + 1, 0, none⟩) 0 0) [] ((w.alloc (.cells #[.int .i64 d, .int .i64 l, .int .i64 f, .int .i64 s, .int .i64 o, .int .i64 n, .int .i64 x, .int .i64 c, .int .i64 k, .int .i64 a, .int .i64 t, .int .i64 c', .int .i64 k', .int .i64 a', .int .i64 t'] 29 (0, 0))).alloc (.cells #[] 3 (0, 0))) from
    ⟨(BoxF.new w [.int .i64 d, .int .i64 l, .int .i64 f, .int .i64 s, .int .i64 o, .int .i64 n, .int .i64 x, .int .i64 c, .int .i64 k, .int .i64 a, .int .i64 t, .int .i64 c', .int .i64 k', .int .i64 a', .int .i64 t'] 29).alloc _, by
      have h_ := World.ownsRow_lit (e := 3) (size := 1) (base := w.heap.size + 1) (w.alloc (.cells #[.int .i64 d, .int .i64 l, .int .i64 f, .int .i64 s, .int .i64 o, .int .i64 n, .int .i64 x, .int .i64 c, .int .i64 k, .int .i64 a, .int .i64 t, .int .i64 c', .int .i64 k', .int .i64 a', .int .i64 t'] 29 (0, 0))) #[] 0 (by simp) (by unfold maxLen; omega) rfl
      rw [World.size_alloc] at h_
      exact h_, ((Below.refl _ w).alloc (Nat.le_refl _) _).alloc (by simp) _⟩)
  have CG := Lib.hid (fun W => l5Good_any d l f s o n x c k a t c' k' a' t' W true hr)
  have r0 := K0.out.1.range
  clear hr
  go_enter Tryd.func9, Tryd.ntmps9
  go_wp2_with (with_reducible refine isList ?_; refine ld15 2 w.heap.size [.int .i64 d, .int .i64 l, .int .i64 f, .int .i64 s, .int .i64 o, .int .i64 n, .int .i64 x, .int .i64 c, .int .i64 k, .int .i64 a, .int .i64 t, .int .i64 c', .int .i64 k', .int .i64 a', .int .i64 t'] rfl rfl rfl rfl ?_ ?_; exact r0)
  refine (CG.out _).mono ?_
  rintro e w1 ⟨rfl, h1⟩
  have K1 := Lib.hid (K0.out.below h1)
  clear h1 r0 K0
  go_wp2_with fail
  refine (CI.out _).mono ?_
  rintro e w2 ⟨rfl, rfl⟩
  have bx := K1.out.1
  obtain ⟨x0, x1, x2, x3, x4, x5, x6, x7, x8, x9, x10, x11, x12, x13, x14, xf⟩ := bx.fifteen
  clear bx
  go_wp2_with fail
  refine (CN.out _).mono ?_
  rintro e w3 ⟨rfl, h3⟩
  have K2 := Lib.hid (K1.out.below h3)
  clear h3 K1
  clear x0 x1 x2 x3 x4 x5 x6 x7 x8 x9 x10 x11 x12 x13 x14 xf
  go_wp2_with fail
  go_loopw [6, 7] (fun v y wr => ∃ m : Nat, m ≤ 9 ∧ y = .int .i64 ((m : Int) + 1) ∧ KI w [.int .i64 d, .int .i64 l, .int .i64 f, .int .i64 s, .int .i64 o, .int .i64 n, .int .i64 x, .int .i64 c, .int .i64 k, .int .i64 a, .int .i64 t, .int .i64 c', .int .i64 k', .int .i64 a', .int .i64 t'] v (alL (fun y => clashB y x) m) wr) (fun _ y _ => 10 - (intOf y).toNat)
  case atStart => exact ⟨0, by omega, rfl, K2.out⟩
  case round =>
    obtain ⟨m, hm, rfl, hk⟩ := hrel
    have HK := Lib.hid hk
    clear hk
    by_cases hlt : m < 9
    · have hl := alL_len (fun y => clashB y x) m
      have bx := HK.out.1
      obtain ⟨x0, x1, x2, x3, x4, x5, x6, x7, x8, x9, x10, x11, x12, x13, x14, xf⟩ := bx.fifteen
      clear bx
      obtain ⟨r, hr⟩ : ∃ r, (fun y => clashB y x) ((m : Int) + 1) = r := ⟨_, rfl⟩
      have HA0 : r = false → alL (fun y => clashB y x) (m + 1) = alL (fun y => clashB y x) m ++ [(m : Int) + 1] := fun e => alL_in (p := fun y => clashB y x) (hr.trans e)
      have HA1 : r = true → alL (fun y => clashB y x) (m + 1) = alL (fun y => clashB y x) m := fun e => alL_out (p := fun y => clashB y x) (hr.trans e)
      have CCm := Lib.hid (fun W => by have h_ := CC.out ((m : Int) + 1) W; rw [show clashB ((m : Int) + 1) x = r from hr] at h_; exact h_)
      clear hr
      go_wp2_with fail
      refine (CO.out _ _).mono ?_
      rintro e w4 ⟨rfl, h4⟩
      have HK4 := Lib.hid (HK.out.below h4)
      clear h4 HK
      clear x0 x1 x2 x3 x4 x5 x6 x7 x8 x9 x10 x11 x12 x13 x14 xf
      have bx := HK4.out.1
      obtain ⟨x0, x1, x2, x3, x4, x5, x6, x7, x8, x9, x10, x11, x12, x13, x14, xf⟩ := bx.fifteen
      clear bx
      go_wp2_with fail
      refine (CCm.out _).mono ?_
      rintro e w5 ⟨rfl, rfl⟩
      clear x0 x1 x2 x3 x4 x5 x6 x7 x8 x9 x10 x11 x12 x13 x14 xf
      have bs := HK4.out.2.2.size
      have bl := HK4.out.1.lt
      cases r
      · have HA := Lib.hid (HA0 rfl)
        clear HA0 HA1
        go_wp2_with (at_builtin; refine wpList_append_own_at _ rfl _ _ 32 rfl (w.heap.size + 1) 3 i0 (.int .i64 0) 1 8 Tryd.underlying32 hi hz0 hz1 hz2 rfl (by decide) _ _ _ rfl (HK4.out.2.1.alloc _) ⟨w4.heap.size, 0, none⟩ 1 1 [.int .i64 ((m : Int) + 1)] rfl rfl (cell_one_new _ _ _) (fun x hx => by simp at hx; subst hx; rfl) (by unfold maxLen; omega) (by omega) (by simp; omega) ?_; intro v' w6 hown' hgrow hnil hat)
        go_roundw
        case rel => exact ⟨m + 1, by omega, by go_num, KI.app HK4.out hgrow hown' HA.out⟩
        case measure => simp [intOf]; omega
      · have HA := Lib.hid (HA1 rfl)
        clear HA0 HA1
        go_wp2_with fail
        go_roundw
        case rel => exact ⟨m + 1, by omega, by go_num, by rw [HA.out]; exact HK4.out⟩
        case measure => simp [intOf]; omega
    · obtain ⟨a0, cap0, rfl, hO⟩ := ownI_append HK.out.2.1
      have HO := Lib.hid (OwnI.low hO (B' := w.heap.size) (by omega))
      clear hO
      have HB := Lib.hid HK.out.2.2
      go_wp2_with fail
      go_ret2
      have e9 : m = 9 := by omega
      subst e9
      exact ⟨a0, cap0, rfl, HO.out, HB.out⟩
set_option linter.unusedSimpArgs false in
set_option maxRecDepth 100000 in
set_option maxHeartbeats 8000000 in
theorem allowS_none3g (d l f s o n x c k a t c' k' a' t' : Int) (w : World) (hr : aOkB d l f s o n x c k a t c' k' a' t' = true) (hg : gNoB c' k' a' t' = true) :
    Calls Tryd.prog 9 #[.agg #[.int .i64 d, .int .i64 l, .int .i64 f, .int .i64 s, .int .i64 o, .int .i64 n, .int .i64 x, .int .i64 c, .int .i64 k, .int .i64 a, .int .i64 t, .int .i64 c', .int .i64 k', .int .i64 a', .int .i64 t'], .int .i64 3] w (Ans w [] false) := by
  have CI := Lib.hid (fun W => l1In_any 3 1 3 W true (by decide))
  have CN := Lib.hid (fun W => l4None_any c' k' a' t' W true hg)
  clear hg
  have K0 := Lib.hid (show KI w [.int .i64 d, .int .i64 l, .int .i64 f, .int .i64 s, .int .i64 o, .int .i64 n, .int .i64 x, .int .i64 c, .int .i64 k, .int .i64 a, .int .i64 t, .int .i64 c', .int .i64 k', .int .i64 a', .int .i64 t'] (.slice (some ⟨w.heap.size + 1, 0, none⟩) 0 0) [] ((w.alloc (.cells #[.int .i64 d, .int .i64 l, .int .i64 f, .int .i64 s, .int .i64 o, .int .i64 n, .int .i64 x, .int .i64 c, .int .i64 k, .int .i64 a, .int .i64 t, .int .i64 c', .int .i64 k', .int .i64 a', .int .i64 t'] 29 (0, 0))).alloc (.cells #[] 3 (0, 0))) from
    ⟨(BoxF.new w [.int .i64 d, .int .i64 l, .int .i64 f, .int .i64 s, .int .i64 o, .int .i64 n, .int .i64 x, .int .i64 c, .int .i64 k, .int .i64 a, .int .i64 t, .int .i64 c', .int .i64 k', .int .i64 a', .int .i64 t'] 29).alloc _, by
      have h_ := World.ownsRow_lit (e := 3) (size := 1) (base := w.heap.size + 1) (w.alloc (.cells #[.int .i64 d, .int .i64 l, .int .i64 f, .int .i64 s, .int .i64 o, .int .i64 n, .int .i64 x, .int .i64 c, .int .i64 k, .int .i64 a, .int .i64 t, .int .i64 c', .int .i64 k', .int .i64 a', .int .i64 t'] 29 (0, 0))) #[] 0 (by simp) (by unfold maxLen; omega) rfl
      rw [World.size_alloc] at h_
      exact h_, ((Below.refl _ w).alloc (Nat.le_refl _) _).alloc (by simp) _⟩)
  have CG := Lib.hid (fun W => l5Good_any d l f s o n x c k a t c' k' a' t' W true hr)
  have r0 := K0.out.1.range
  clear hr
  go_enter Tryd.func9, Tryd.ntmps9
  go_wp2_with (with_reducible refine isList ?_; refine ld15 2 w.heap.size [.int .i64 d, .int .i64 l, .int .i64 f, .int .i64 s, .int .i64 o, .int .i64 n, .int .i64 x, .int .i64 c, .int .i64 k, .int .i64 a, .int .i64 t, .int .i64 c', .int .i64 k', .int .i64 a', .int .i64 t'] rfl rfl rfl rfl ?_ ?_; exact r0)
  refine (CG.out _).mono ?_
  rintro e w1 ⟨rfl, h1⟩
  have K1 := Lib.hid (K0.out.below h1)
  clear h1 r0 K0
  go_wp2_with fail
  refine (CI.out _).mono ?_
  rintro e w2 ⟨rfl, rfl⟩
  have bx := K1.out.1
  obtain ⟨x0, x1, x2, x3, x4, x5, x6, x7, x8, x9, x10, x11, x12, x13, x14, xf⟩ := bx.fifteen
  clear bx
  go_wp2_with fail
  refine (CN.out _).mono ?_
  rintro e w3 ⟨rfl, h3⟩
  have K2 := Lib.hid (K1.out.below h3)
  clear h3 K1
  clear x0 x1 x2 x3 x4 x5 x6 x7 x8 x9 x10 x11 x12 x13 x14 xf
  go_wp2_with fail
  go_ret2
  exact ⟨_, _, rfl, OwnI.low (B := w.heap.size + 1) (X := []) K2.out.2.1 (by omega), K2.out.2.2⟩
set_option linter.unusedSimpArgs false in
set_option maxRecDepth 100000 in
set_option maxHeartbeats 8000000 in
theorem allowS_there3 (d l f s o n x c k a t c' k' a' t' : Int) (w : World) (hr : aOkB d l f s o n x c k a t c' k' a' t' = true) (hg : gNoB c' k' a' t' = false) :
    Calls Tryd.prog 9 #[.agg #[.int .i64 d, .int .i64 l, .int .i64 f, .int .i64 s, .int .i64 o, .int .i64 n, .int .i64 x, .int .i64 c, .int .i64 k, .int .i64 a, .int .i64 t, .int .i64 c', .int .i64 k', .int .i64 a', .int .i64 t'], .int .i64 3] w (Ans w (alL (fun y => onL y (tincL d f s)) 9) true) := by
  obtain ⟨i0, hi, hz0, hz1, hz2⟩ := info_parts infoI
  have CI := Lib.hid (fun W => l1In_any 3 1 3 W true (by decide))
  have CN := Lib.hid (fun W => l4None_any c' k' a' t' W false hg)
  clear hg
  have CO := Lib.hid (fun (y : Int) W => l8OnField_any d l f s y W)
  have K0 := Lib.hid (show KI w [.int .i64 d, .int .i64 l, .int .i64 f, .int .i64 s, .int .i64 o, .int .i64 n, .int .i64 x, .int .i64 c, .int .i64 k, .int .i64 a, .int .i64 t, .int .i64 c', .int .i64 k', .int .i64 a', .int .i64 t'] (.slice (some ⟨w.heap.size + 1, 0, none⟩) 0 0) [] ((w.alloc (.cells #[.int .i64 d, .int .i64 l, .int .i64 f, .int .i64 s, .int .i64 o, .int .i64 n, .int .i64 x, .int .i64 c, .int .i64 k, .int .i64 a, .int .i64 t, .int .i64 c', .int .i64 k', .int .i64 a', .int .i64 t'] 29 (0, 0))).alloc (.cells #[] 3 (0, 0))) from
    ⟨(BoxF.new w [.int .i64 d, .int .i64 l, .int .i64 f, .int .i64 s, .int .i64 o, .int .i64 n, .int .i64 x, .int .i64 c, .int .i64 k, .int .i64 a, .int .i64 t, .int .i64 c', .int .i64 k', .int .i64 a', .int .i64 t'] 29).alloc _, by
      have h_ := World.ownsRow_lit (e := 3) (size := 1) (base := w.heap.size + 1) (w.alloc (.cells #[.int .i64 d, .int .i64 l, .int .i64 f, .int .i64 s, .int .i64 o, .int .i64 n, .int .i64 x, .int .i64 c, .int .i64 k, .int .i64 a, .int .i64 t, .int .i64 c', .int .i64 k', .int .i64 a', .int .i64 t'] 29 (0, 0))) #[] 0 (by simp) (by unfold maxLen; omega) rfl
      rw [World.size_alloc] at h_
      exact h_, ((Below.refl _ w).alloc (Nat.le_refl _) _).alloc (by simp) _⟩)
  have CG := Lib.hid (fun W => l5Good_any d l f s o n x c k a t c' k' a' t' W true hr)
  have r0 := K0.out.1.range
  clear hr
  go_enter Tryd.func9, Tryd.ntmps9
  go_wp2_with (with_reducible refine isList ?_; refine ld15 2 w.heap.size [.int .i64 d, .int .i64 l, .int .i64 f, .int .i64 s, .int .i64 o, .int .i64 n, .int .i64 x, .int .i64 c, .int .i64 k, .int .i64 a, .int .i64 t, .int .i64 c', .int .i64 k', .int .i64 a', .int .i64 t'] rfl rfl rfl rfl ?_ ?_; exact r0)
  refine (CG.out _).mono ?_
  rintro e w1 ⟨rfl, h1⟩
  have K1 := Lib.hid (K0.out.below h1)
  clear h1 r0 K0
  go_wp2_with fail
  refine (CI.out _).mono ?_
  rintro e w2 ⟨rfl, rfl⟩
  have bx := K1.out.1
  obtain ⟨x0, x1, x2, x3, x4, x5, x6, x7, x8, x9, x10, x11, x12, x13, x14, xf⟩ := bx.fifteen
  clear bx
  go_wp2_with fail
  refine (CN.out _).mono ?_
  rintro e w3 ⟨rfl, h3⟩
  have K2 := Lib.hid (K1.out.below h3)
  clear h3 K1
  clear x0 x1 x2 x3 x4 x5 x6 x7 x8 x9 x10 x11 x12 x13 x14 xf
  go_wp2_with fail
  go_loopw [6, 7] (fun v y wr => ∃ m : Nat, m ≤ 9 ∧ y = .int .i64 ((m : Int) + 1) ∧ KI w [.int .i64 d, .int .i64 l, .int .i64 f, .int .i64 s, .int .i64 o, .int .i64 n, .int .i64 x, .int .i64 c, .int .i64 k, .int .i64 a, .int .i64 t, .int .i64 c', .int .i64 k', .int .i64 a', .int .i64 t'] v (alL (fun y => onL y (tincL d f s)) m) wr) (fun _ y _ => 10 - (intOf y).toNat)
  case atStart => exact ⟨0, by omega, rfl, K2.out⟩
  case round =>
    obtain ⟨m, hm, rfl, hk⟩ := hrel
    have HK := Lib.hid hk
    clear hk
    by_cases hlt : m < 9
    · have hl := alL_len (fun y => onL y (tincL d f s)) m
      have bx := HK.out.1
      obtain ⟨x0, x1, x2, x3, x4, x5, x6, x7, x8, x9, x10, x11, x12, x13, x14, xf⟩ := bx.fifteen
      clear bx
      obtain ⟨r, hr⟩ : ∃ r, (fun y => onL y (tincL d f s)) ((m : Int) + 1) = r := ⟨_, rfl⟩
      have HA0 : r = false → alL (fun y => onL y (tincL d f s)) (m + 1) = alL (fun y => onL y (tincL d f s)) m ++ [(m : Int) + 1] := fun e => alL_in (p := fun y => onL y (tincL d f s)) (hr.trans e)
      have HA1 : r = true → alL (fun y => onL y (tincL d f s)) (m + 1) = alL (fun y => onL y (tincL d f s)) m := fun e => alL_out (p := fun y => onL y (tincL d f s)) (hr.trans e)
      have COm := Lib.hid (fun W => by have h_ := CO.out ((m : Int) + 1) W; rw [show onL ((m : Int) + 1) (tincL d f s) = r from hr] at h_; exact h_)
      clear hr
      go_wp2_with fail
      refine (COm.out _).mono ?_
      rintro e w4 ⟨rfl, h4⟩
      have HK4 := Lib.hid (HK.out.below h4)
      clear h4 HK
      clear x0 x1 x2 x3 x4 x5 x6 x7 x8 x9 x10 x11 x12 x13 x14 xf
      have bs := HK4.out.2.2.size
      have bl := HK4.out.1.lt
      cases r
      · have HA := Lib.hid (HA0 rfl)
        clear HA0 HA1
        go_wp2_with (at_builtin; refine wpList_append_own_at _ rfl _ _ 32 rfl (w.heap.size + 1) 3 i0 (.int .i64 0) 1 8 Tryd.underlying32 hi hz0 hz1 hz2 rfl (by decide) _ _ _ rfl (HK4.out.2.1.alloc _) ⟨w4.heap.size, 0, none⟩ 1 1 [.int .i64 ((m : Int) + 1)] rfl rfl (cell_one_new _ _ _) (fun x hx => by simp at hx; subst hx; rfl) (by unfold maxLen; omega) (by omega) (by simp; omega) ?_; intro v' w6 hown' hgrow hnil hat)
        go_roundw
        case rel => exact ⟨m + 1, by omega, by go_num, KI.app HK4.out hgrow hown' HA.out⟩
        case measure => simp [intOf]; omega
      · have HA := Lib.hid (HA1 rfl)
        clear HA0 HA1
        go_wp2_with fail
        go_roundw
        case rel => exact ⟨m + 1, by omega, by go_num, by rw [HA.out]; exact HK4.out⟩
        case measure => simp [intOf]; omega
    · obtain ⟨a0, cap0, rfl, hO⟩ := ownI_append HK.out.2.1
      have HO := Lib.hid (OwnI.low hO (B' := w.heap.size) (by omega))
      clear hO
      have HB := Lib.hid HK.out.2.2
      go_wp2_with fail
      go_ret2
      have e9 : m = 9 := by omega
      subst e9
      exact ⟨a0, cap0, rfl, HO.out, HB.out⟩
end Go.Proofs.YtmmbhglmafnfpabDoor
