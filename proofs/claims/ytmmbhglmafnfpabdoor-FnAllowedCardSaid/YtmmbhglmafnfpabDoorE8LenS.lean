/- Contract: the model's LenientFindings. -/
import Derived.Test.YtmmbhglmafnfpabDoorE8Len
import Derived.Test.YtmmbhglmafnfpabDoorE8Spec
namespace Go.Proofs.YtmmbhglmafnfpabDoor
open Go.RowKit

def keepF (o : Int) (F : Fnd) : Bool := F.p != 1 || o != 7
theorem LF_keep (o : Int) (X : List Fnd) : LF o X = X.filter (keepF o) := by
  unfold LF
  split
  · next h => exact List.filter_congr (fun F _ => by unfold keepF; rw [h]; simp)
  · next h =>
    have e : (o != 7) = true := by rw [bne_iff_ne]; exact h
    exact (List.filter_eq_self.2 (fun F _ => by unfold keepF; rw [e]; simp)).symm
theorem keep_in {o : Int} {X : List Fnd} {k : Nat} {F : Fnd} (h : X[k]? = some F) (hk : keepF o F = true) : (X.take (k + 1)).filter (keepF o) = (X.take k).filter (keepF o) ++ [F] := by
  rw [List.take_add_one, h, List.filter_append]; simp [hk]
theorem keep_out {o : Int} {X : List Fnd} {k : Nat} {F : Fnd} (h : X[k]? = some F) (hk : keepF o F = false) : (X.take (k + 1)).filter (keepF o) = (X.take k).filter (keepF o) := by
  rw [List.take_add_one, h, List.filter_append]; simp [hk]
/-- The list that is read, beside a row that is written. -/
def KR8 (a : Option Addr) (n : Nat) (X : List Fnd) (v : Value) (W : World) : Prop := RdFn W a n X ∧ ∀ b o, a = some ⟨b, o, none⟩ → b < W.heap.size ∧ v.ownBlock ≠ some b
theorem KR8.app {W W' : World} {a : Option Addr} {n : Nat} {X : List Fnd} {v v' : Value} {o : Obj} (h : KR8 a n X v W) (hg : (W.alloc o).grownBy W' v.ownBlock) (hat : v'.ownBlock = v.ownBlock ∨ v'.ownBlock = some (W.alloc o).heap.size) : KR8 a n X v' W' := by
  have h0 := h.1.below ((Below.refl _ W).alloc (Nat.le_refl _) o)
  refine ⟨⟨h0.1, fun hn => ?_⟩, fun b lo e => ?_⟩
  · obtain ⟨b, lo, e, hlt, hc⟩ := h0.2 hn
    have q : some b ≠ v.ownBlock := fun e2 => (h.2 b lo e).2 e2.symm
    exact ⟨b, lo, e, Nat.lt_of_lt_of_le hlt hg.size, fun k F hk => ⟨hg.cell (hc k F hk).1 q, hg.cell (hc k F hk).2.1 q, hg.cell (hc k F hk).2.2 q⟩⟩
  · have h1 := h.2 b lo e
    have h2 := hg.size
    simp at h2
    refine ⟨by omega, fun h3 => ?_⟩
    rcases hat with e1 | e1
    · rw [e1] at h3; exact h1.2 h3
    · rw [e1] at h3; simp at h3; omega
set_option linter.unusedSimpArgs false in
set_option maxRecDepth 100000 in
set_option maxHeartbeats 8000000 in
theorem lenient_spec_no (d l f s o n x c k a t c' k' a' t' : Int) (w : World) (hr : aOkB d l f s o n x c k a t c' k' a' t' = false) :
    Calls Tryd.prog 15 #[.agg #[.int .i64 d, .int .i64 l, .int .i64 f, .int .i64 s, .int .i64 o, .int .i64 n, .int .i64 x, .int .i64 c, .int .i64 k, .int .i64 a, .int .i64 t, .int .i64 c', .int .i64 k', .int .i64 a', .int .i64 t']] w (AnsFn w [] false) := by
  have CG := Lib.hid (fun W => l5Good_any d l f s o n x c k a t c' k' a' t' W false hr)
  have K0 := Lib.hid (show KF w [.int .i64 d, .int .i64 l, .int .i64 f, .int .i64 s, .int .i64 o, .int .i64 n, .int .i64 x, .int .i64 c, .int .i64 k, .int .i64 a, .int .i64 t, .int .i64 c', .int .i64 k', .int .i64 a', .int .i64 t'] (.slice (some ⟨w.heap.size + 1, 0, none⟩) 0 0) [] ((w.alloc (.cells #[.int .i64 d, .int .i64 l, .int .i64 f, .int .i64 s, .int .i64 o, .int .i64 n, .int .i64 x, .int .i64 c, .int .i64 k, .int .i64 a, .int .i64 t, .int .i64 c', .int .i64 k', .int .i64 a', .int .i64 t'] 29 (0, 0))).alloc (.cells #[] 40 (0, 0))) from
    ⟨(BoxF.new w [.int .i64 d, .int .i64 l, .int .i64 f, .int .i64 s, .int .i64 o, .int .i64 n, .int .i64 x, .int .i64 c, .int .i64 k, .int .i64 a, .int .i64 t, .int .i64 c', .int .i64 k', .int .i64 a', .int .i64 t'] 29).alloc _, by
      have h_ := World.ownsRow_lit (e := 40) (size := 3) (base := w.heap.size) (w.alloc (.cells #[.int .i64 d, .int .i64 l, .int .i64 f, .int .i64 s, .int .i64 o, .int .i64 n, .int .i64 x, .int .i64 c, .int .i64 k, .int .i64 a, .int .i64 t, .int .i64 c', .int .i64 k', .int .i64 a', .int .i64 t'] 29 (0, 0))) #[] 0 (by simp) (by unfold maxLen; omega) rfl
      rw [World.size_alloc] at h_
      exact h_, ((Below.refl _ w).alloc (Nat.le_refl _) _).alloc (by simp) _, by simp [Value.ownBlock]⟩)
  have r0 := K0.out.1.range
  clear hr
  go_enter Tryd.func15, Tryd.ntmps15
  go_wp2_with (with_reducible refine isList ?_; refine ld15 1 w.heap.size [.int .i64 d, .int .i64 l, .int .i64 f, .int .i64 s, .int .i64 o, .int .i64 n, .int .i64 x, .int .i64 c, .int .i64 k, .int .i64 a, .int .i64 t, .int .i64 c', .int .i64 k', .int .i64 a', .int .i64 t'] rfl rfl rfl rfl ?_ ?_; exact r0)
  refine (CG.out _).mono ?_
  rintro e w1 ⟨rfl, h1⟩
  have K1 := Lib.hid (K0.out.below h1)
  clear h1 r0 K0
  go_wp2_with fail
  go_ret2
  exact ⟨_, _, rfl, K1.out.2.1, K1.out.2.2.1⟩
set_option linter.unusedSimpArgs false in
set_option maxRecDepth 100000 in
set_option maxHeartbeats 8000000 in
theorem lenient_spec_yes (d l f s o n x c k a t c' k' a' t' : Int) (w : World) (hr : aOkB d l f s o n x c k a t c' k' a' t' = true) (X : List Fnd) (hX : X.length ≤ 3)
    (hF : ∀ W, Calls Tryd.prog 48 #[.agg #[.int .i64 d, .int .i64 l, .int .i64 f, .int .i64 s, .int .i64 o, .int .i64 n, .int .i64 x, .int .i64 c, .int .i64 k, .int .i64 a, .int .i64 t, .int .i64 c', .int .i64 k', .int .i64 a', .int .i64 t']] W fun e w' => ∃ v, e = .returned v ∧ OwnFn w' W.heap.size v X ∧ Below W.heap.size W w') :
    Calls Tryd.prog 15 #[.agg #[.int .i64 d, .int .i64 l, .int .i64 f, .int .i64 s, .int .i64 o, .int .i64 n, .int .i64 x, .int .i64 c, .int .i64 k, .int .i64 a, .int .i64 t, .int .i64 c', .int .i64 k', .int .i64 a', .int .i64 t']] w (AnsFn w (LF o X) true) := by
  obtain ⟨i0, hi, hz0, hz1, hz2⟩ := info_parts infoFn
  have CG := Lib.hid (fun W => l5Good_any d l f s o n x c k a t c' k' a' t' W true hr)
  have CF := Lib.hid hF
  have K0 := Lib.hid (show KF w [.int .i64 d, .int .i64 l, .int .i64 f, .int .i64 s, .int .i64 o, .int .i64 n, .int .i64 x, .int .i64 c, .int .i64 k, .int .i64 a, .int .i64 t, .int .i64 c', .int .i64 k', .int .i64 a', .int .i64 t'] (.slice (some ⟨w.heap.size + 1, 0, none⟩) 0 0) [] ((w.alloc (.cells #[.int .i64 d, .int .i64 l, .int .i64 f, .int .i64 s, .int .i64 o, .int .i64 n, .int .i64 x, .int .i64 c, .int .i64 k, .int .i64 a, .int .i64 t, .int .i64 c', .int .i64 k', .int .i64 a', .int .i64 t'] 29 (0, 0))).alloc (.cells #[] 40 (0, 0))) from
    ⟨(BoxF.new w [.int .i64 d, .int .i64 l, .int .i64 f, .int .i64 s, .int .i64 o, .int .i64 n, .int .i64 x, .int .i64 c, .int .i64 k, .int .i64 a, .int .i64 t, .int .i64 c', .int .i64 k', .int .i64 a', .int .i64 t'] 29).alloc _, by
      have h_ := World.ownsRow_lit (e := 40) (size := 3) (base := w.heap.size) (w.alloc (.cells #[.int .i64 d, .int .i64 l, .int .i64 f, .int .i64 s, .int .i64 o, .int .i64 n, .int .i64 x, .int .i64 c, .int .i64 k, .int .i64 a, .int .i64 t, .int .i64 c', .int .i64 k', .int .i64 a', .int .i64 t'] 29 (0, 0))) #[] 0 (by simp) (by unfold maxLen; omega) rfl
      rw [World.size_alloc] at h_
      exact h_, ((Below.refl _ w).alloc (Nat.le_refl _) _).alloc (by simp) _, by simp [Value.ownBlock]⟩)
  have Z0 : Hid (w.heap.size + 1 < ((w.alloc (.cells #[.int .i64 d, .int .i64 l, .int .i64 f, .int .i64 s, .int .i64 o, .int .i64 n, .int .i64 x, .int .i64 c, .int .i64 k, .int .i64 a, .int .i64 t, .int .i64 c', .int .i64 k', .int .i64 a', .int .i64 t'] 29 (0, 0))).alloc (.cells #[] 40 (0, 0))).heap.size) := Lib.hid (by simp)
  have r0 := K0.out.1.range
  clear hr hF
  rw [LF_keep]
  go_enter Tryd.func15, Tryd.ntmps15
  go_wp2_with (with_reducible refine isList ?_; refine ld15 1 w.heap.size [.int .i64 d, .int .i64 l, .int .i64 f, .int .i64 s, .int .i64 o, .int .i64 n, .int .i64 x, .int .i64 c, .int .i64 k, .int .i64 a, .int .i64 t, .int .i64 c', .int .i64 k', .int .i64 a', .int .i64 t'] rfl rfl rfl rfl ?_ ?_; exact r0)
  refine (CG.out _).mono ?_
  rintro e w1 ⟨rfl, h1⟩
  have K1 := Lib.hid (K0.out.below h1)
  have Z1 := Lib.hid (Nat.lt_of_lt_of_le Z0.out h1.size)
  have r1 := K1.out.1.range
  clear h1 r0 K0 Z0
  go_wp2_with (with_reducible refine isList ?_; refine ld15 1 w.heap.size [.int .i64 d, .int .i64 l, .int .i64 f, .int .i64 s, .int .i64 o, .int .i64 n, .int .i64 x, .int .i64 c, .int .i64 k, .int .i64 a, .int .i64 t, .int .i64 c', .int .i64 k', .int .i64 a', .int .i64 t'] rfl rfl rfl rfl ?_ ?_; exact r1)
  refine (CF.out _).mono ?_
  rintro e w2 ⟨v, rfl, ow, h2⟩
  obtain ⟨a0, c0, rfl⟩ := ow.slice
  have K2 := Lib.hid (K1.out.below h2)
  have R2 : Hid (KR8 a0 X.length X (.slice (some ⟨w.heap.size + 1, 0, none⟩) 0 0) w2) := Lib.hid ⟨ow.rd, fun b o e => by
    rcases ow.shape with ⟨h0, _⟩ | ⟨g, h0, h3, h4⟩
    · rw [h0] at e; cases e
    · rw [h0] at e
      cases e
      refine ⟨h4, fun h => ?_⟩
      simp only [Value.ownBlock, Option.some.injEq] at h
      have := Z1.out
      omega⟩
  obtain ⟨n_, hn⟩ : ∃ m, X.length = m := ⟨_, rfl⟩
  rw [hn] at R2 ⊢
  have HN := Lib.hid hn
  have hn3 : n_ ≤ 3 := by omega
  clear h2 r1 K1 Z1 ow hn hX CG CF
  go_wp2_with fail
  go_loopw [4, 6] (fun v y wr => ∃ q : Nat, q ≤ n_ ∧ y = .int .i64 (q : Int) ∧ Hid (KF w [.int .i64 d, .int .i64 l, .int .i64 f, .int .i64 s, .int .i64 o, .int .i64 n, .int .i64 x, .int .i64 c, .int .i64 k, .int .i64 a, .int .i64 t, .int .i64 c', .int .i64 k', .int .i64 a', .int .i64 t'] v ((X.take q).filter (keepF o)) wr) ∧ Hid (KR8 a0 n_ X v wr)) (fun _ y _ => n_ - (intOf y).toNat)
  case atStart => exact ⟨0, by omega, rfl, K2, R2⟩
  case round =>
    obtain ⟨q, hq, rfl, HK, HR⟩ := hrel
    clear K2 R2
    by_cases hlt : q < n_
    · obtain ⟨b, lo, rfl, hlb, hc⟩ := HR.out.1.2 (by omega)
      obtain ⟨F, hF⟩ := atF_of_lt HN.out hlt
      obtain ⟨x0, x1, x2⟩ := hc q F hF
      have HF := Lib.hid hF
      have bo := HK.out.1.at 4
      simp only [List.getElem?_cons_zero, List.getElem?_cons_succ] at bo
      have bs := HK.out.2.2.1.size
      have bl := HK.out.1.lt
      have hl3 : ((X.take q).filter (keepF o)).length ≤ q := Nat.le_trans (List.length_filter_le _ _) (by rw [List.length_take]; omega)
      obtain ⟨z, hz⟩ : ∃ z, (F.p != 1) = z := ⟨_, rfl⟩
      obtain ⟨y, hy⟩ : ∃ y, (o != 7) = y := ⟨_, rfl⟩
      have HY : Hid (keepF o F = (z || y)) := Lib.hid (by unfold keepF; rw [hz, hy])
      obtain ⟨p_, u_, l_⟩ := F
      simp only at x0 x1 x2 hz
      clear hc hF
      cases z
      · cases y
        · go_wp2_with fail
          go_roundw
          case rel => exact ⟨q + 1, by omega, by go_num, by rw [keep_out HF.out (by have h_ := HY.out; simpa using h_)]; exact HK, HR⟩
          case measure => simp [intOf]; omega
        · go_wp2_with (at_builtin; refine wpList_append_own_at _ rfl _ _ 36 rfl w.heap.size 40 i0 _ 3 24 Tryd.underlying36 hi hz0 hz1 hz2 rfl (by decide) _ _ _ rfl (World.ownsRow.alloc HK.out.2.1 _) ⟨wr.heap.size, 0, none⟩ 1 1 [.int .i64 p_, .int .i64 u_, .int .i64 l_] rfl rfl (cell_newF wr [.int .i64 p_, .int .i64 u_, .int .i64 l_] 40) (by simp [Value.oneCell']) (by unfold maxLen; omega) (by omega) (by simp; omega) ?_; intro v5 w5 hown5 hgrow5 hnil5 hat5)
          go_roundw
          case rel => exact ⟨q + 1, by omega, by go_num, Lib.hid (KF.app (F := ⟨p_, u_, l_⟩) HK.out hgrow5 hown5 (keep_in HF.out (by have h_ := HY.out; simpa using h_)) rfl hat5), Lib.hid (KR8.app HR.out hgrow5 hat5)⟩
          case measure => simp [intOf]; omega
      · go_wp2_with (at_builtin; refine wpList_append_own_at _ rfl _ _ 36 rfl w.heap.size 40 i0 _ 3 24 Tryd.underlying36 hi hz0 hz1 hz2 rfl (by decide) _ _ _ rfl (World.ownsRow.alloc HK.out.2.1 _) ⟨wr.heap.size, 0, none⟩ 1 1 [.int .i64 p_, .int .i64 u_, .int .i64 l_] rfl rfl (cell_newF wr [.int .i64 p_, .int .i64 u_, .int .i64 l_] 40) (by simp [Value.oneCell']) (by unfold maxLen; omega) (by omega) (by simp; omega) ?_; intro v5 w5 hown5 hgrow5 hnil5 hat5)
        go_roundw
        case rel => exact ⟨q + 1, by omega, by go_num, Lib.hid (KF.app (F := ⟨p_, u_, l_⟩) HK.out hgrow5 hown5 (keep_in HF.out (by have h_ := HY.out; simpa using h_)) rfl hat5), Lib.hid (KR8.app HR.out hgrow5 hat5)⟩
        case measure => simp [intOf]; omega
    · have e9 : q = n_ := by omega
      subst e9
      have hE := HK.out.2.1
      rw [List.take_of_length_le (by have := HN.out; omega)] at hE
      obtain ⟨a5, c5, rfl⟩ := hE.slice
      have HE := Lib.hid hE
      have HB := Lib.hid HK.out.2.2.1
      clear hE
      go_wp2_with fail
      go_ret2
      exact ⟨a5, c5, rfl, HE.out, HB.out⟩
end Go.Proofs.YtmmbhglmafnfpabDoor
