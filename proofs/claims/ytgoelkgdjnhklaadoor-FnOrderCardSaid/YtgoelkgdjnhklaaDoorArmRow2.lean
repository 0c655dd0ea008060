/- Contracts: the laws' szArmsS, toArmsS and eqArmsS. -/
import Derived.Test.YtgoelkgdjnhklaaDoorArmBest
import Derived.Test.YtgoelkgdjnhklaaDoorK2
import Derived.Deep.RegionWith
import Derived.OwnWalk
namespace Go.Proofs.YtgoelkgdjnhklaaDoor
open Go.RowKit

theorem infoA5 : (Tryd.prog.info? 37).map (fun i => (i.zero, i.size, i.bytes)) = some (some (.agg #[.int .i64 0, .int .i64 0, .int .i64 0, .int .i64 0, .int .i64 0, .int .i64 0, .int .i64 0, .int .i64 0, .int .i64 0, .int .i64 0, .int .i64 0, .int .i64 0, .int .i64 0, .int .i64 0, .int .i64 0]), 15, 120) := by kernel_rfl
theorem putL_len : ∀ (vs : List Value) (i : Nat) (L : List Value), (putL L i vs).length = L.length
  | [], _, _ => rfl
  | v :: r, i, L => (putL_len r (i + 1) _).trans (by simp)
theorem putL_lt : ∀ (vs : List Value) (i m : Nat) (L : List Value), m < i → (putL L i vs)[m]? = L[m]?
  | [], _, _, _, _ => rfl
  | v :: r, i, m, L, h => (putL_lt r (i + 1) m _ (by omega)).trans (by rw [List.getElem?_set_ne (by omega)])
theorem putL_at : ∀ (vs : List Value) (i j : Nat) (L : List Value), i + j < L.length → j < vs.length → (putL L i vs)[i + j]? = vs[j]?
  | [], _, _, _, _, h => absurd h (by simp)
  | v :: r, i, 0, L, h, _ => (putL_lt r (i + 1) i _ (by omega)).trans (by rw [List.getElem?_set_self (by omega)]; rfl)
  | v :: r, i, j + 1, L, h, hj => by
    have q := putL_at r (i + 1) j (L.set i v) (by simp; omega) (by simpa using hj)
    rw [show i + 1 + j = i + (j + 1) by omega] at q
    exact q
theorem chain_box {W : World} {g i : Nat} {L : List Value} {T : TypeId} {v0 v1 v2 v3 v4 v5 v6 v7 v8 v9 v10 v11 v12 v13 v14 : Value} (h : BoxF W g L T) : BoxF (((((((((((((((W.setCell ⟨g, i, none⟩ v0).setCell ⟨g, i + 1, none⟩ v1).setCell ⟨g, i + 2, none⟩ v2).setCell ⟨g, i + 3, none⟩ v3).setCell ⟨g, i + 4, none⟩ v4).setCell ⟨g, i + 5, none⟩ v5).setCell ⟨g, i + 6, none⟩ v6).setCell ⟨g, i + 7, none⟩ v7).setCell ⟨g, i + 8, none⟩ v8).setCell ⟨g, i + 9, none⟩ v9).setCell ⟨g, i + 10, none⟩ v10).setCell ⟨g, i + 11, none⟩ v11).setCell ⟨g, i + 12, none⟩ v12).setCell ⟨g, i + 13, none⟩ v13).setCell ⟨g, i + 14, none⟩ v14) g (putL L i [v0, v1, v2, v3, v4, v5, v6, v7, v8, v9, v10, v11, v12, v13, v14]) T := sets_box [v0, v1, v2, v3, v4, v5, v6, v7, v8, v9, v10, v11, v12, v13, v14] i h
theorem chain_below {W w : World} {B g i : Nat} {v0 v1 v2 v3 v4 v5 v6 v7 v8 v9 v10 v11 v12 v13 v14 : Value} (h : Below B w W) (hg : B ≤ g) : Below B w (((((((((((((((W.setCell ⟨g, i, none⟩ v0).setCell ⟨g, i + 1, none⟩ v1).setCell ⟨g, i + 2, none⟩ v2).setCell ⟨g, i + 3, none⟩ v3).setCell ⟨g, i + 4, none⟩ v4).setCell ⟨g, i + 5, none⟩ v5).setCell ⟨g, i + 6, none⟩ v6).setCell ⟨g, i + 7, none⟩ v7).setCell ⟨g, i + 8, none⟩ v8).setCell ⟨g, i + 9, none⟩ v9).setCell ⟨g, i + 10, none⟩ v10).setCell ⟨g, i + 11, none⟩ v11).setCell ⟨g, i + 12, none⟩ v12).setCell ⟨g, i + 13, none⟩ v13).setCell ⟨g, i + 14, none⟩ v14) := sets_below hg [v0, v1, v2, v3, v4, v5, v6, v7, v8, v9, v10, v11, v12, v13, v14] i h
theorem row15 {W : World} {g i : Nat} {L : List Value} {T : TypeId} (h : BoxF W g L T) (hi : i + 15 ≤ L.length) : ∃ u0 u1 u2 u3 u4 u5 u6 u7 u8 u9 u10 u11 u12 u13 u14 : Value, W.cell? ⟨g, i, none⟩ = some u0 ∧ W.cell? ⟨g, i + 1, none⟩ = some u1 ∧ W.cell? ⟨g, i + 2, none⟩ = some u2 ∧ W.cell? ⟨g, i + 3, none⟩ = some u3 ∧ W.cell? ⟨g, i + 4, none⟩ = some u4 ∧ W.cell? ⟨g, i + 5, none⟩ = some u5 ∧ W.cell? ⟨g, i + 6, none⟩ = some u6 ∧ W.cell? ⟨g, i + 7, none⟩ = some u7 ∧ W.cell? ⟨g, i + 8, none⟩ = some u8 ∧ W.cell? ⟨g, i + 9, none⟩ = some u9 ∧ W.cell? ⟨g, i + 10, none⟩ = some u10 ∧ W.cell? ⟨g, i + 11, none⟩ = some u11 ∧ W.cell? ⟨g, i + 12, none⟩ = some u12 ∧ W.cell? ⟨g, i + 13, none⟩ = some u13 ∧ W.cell? ⟨g, i + 14, none⟩ = some u14 := by
  have q : ∀ j, j < 15 → ∃ v, W.cell? ⟨g, i + j, none⟩ = some v := fun j hj => ⟨L[i + j]'(by omega), (h.at (i + j)).trans (List.getElem?_eq_getElem _)⟩
  obtain ⟨u0, q0⟩ := q 0 (by omega)
  obtain ⟨u1, q1⟩ := q 1 (by omega)
  obtain ⟨u2, q2⟩ := q 2 (by omega)
  obtain ⟨u3, q3⟩ := q 3 (by omega)
  obtain ⟨u4, q4⟩ := q 4 (by omega)
  obtain ⟨u5, q5⟩ := q 5 (by omega)
  obtain ⟨u6, q6⟩ := q 6 (by omega)
  obtain ⟨u7, q7⟩ := q 7 (by omega)
  obtain ⟨u8, q8⟩ := q 8 (by omega)
  obtain ⟨u9, q9⟩ := q 9 (by omega)
  obtain ⟨u10, q10⟩ := q 10 (by omega)
  obtain ⟨u11, q11⟩ := q 11 (by omega)
  obtain ⟨u12, q12⟩ := q 12 (by omega)
  obtain ⟨u13, q13⟩ := q 13 (by omega)
  obtain ⟨u14, q14⟩ := q 14 (by omega)
  exact ⟨u0, u1, u2, u3, u4, u5, u6, u7, u8, u9, u10, u11, u12, u13, u14, q0, q1, q2, q3, q4, q5, q6, q7, q8, q9, q10, q11, q12, q13, q14⟩
theorem filled_rd {w : World} {g n : Nat} {L : List Value} {T : TypeId} {X : List Arm} (h : BoxF w g L T) (hX : X.length = n) (hf : ∀ k A, X[k]? = some A → ∀ j z, A.ints[j]? = some z → L[k * 15 + j]? = some (.int .i64 z)) : RdA w (some ⟨g, 0, none⟩) n X :=
  ⟨hX, fun _ => ⟨g, 0, rfl, h.lt, fun k A hk j z hj => by rw [Nat.zero_add]; exact (h.at _).trans (hf k A hk j z hj)⟩⟩
theorem fill_step {L : List Value} {X : List Arm} {n k : Nat} {A : Arm} (hL : L.length = n * 15) (hk : k < n) (hA : X[k]? = some A) (hf : ∀ i B, i < k → X[i]? = some B → ∀ j z, B.ints[j]? = some z → L[i * 15 + j]? = some (.int .i64 z)) :
    ∀ i B, i < k + 1 → X[i]? = some B → ∀ j z, B.ints[j]? = some z → (putL L (k * 15) [.int .i64 A.d, .int .i64 A.l, .int .i64 A.f, .int .i64 A.s, .int .i64 A.o, .int .i64 A.n, .int .i64 A.x, .int .i64 A.c, .int .i64 A.k, .int .i64 A.a, .int .i64 A.t, .int .i64 A.c', .int .i64 A.k', .int .i64 A.a', .int .i64 A.t'])[i * 15 + j]? = some (.int .i64 z) := by
  intro i B hi hB j z hj
  have hj15 : j < 15 := (List.getElem?_eq_some_iff.1 hj).1
  by_cases e : i = k
  · subst e
    rw [hA] at hB
    cases hB
    rw [putL_at _ _ _ _ (by omega) hj15]
    have q : (A.ints.map (Value.int .i64))[j]? = some (.int .i64 z) := by rw [List.getElem?_map, hj]; rfl
    exact q
  · rw [putL_lt _ _ _ _ (by omega)]
    exact hf i B (by omega) hB j z hj
theorem szArms_any (n : Nat) (a : Option Addr) (c : Nat) (w : World) (hn : n ≤ 1048576) :
    Calls Tryd.prog 49 #[.slice a n c, .int .i64 1048576] w fun e w' => e = .returned (.int .i64 (1048576 - (n : Int))) ∧ w = w' := by
  have ew : IntKind.i64.wrap (1048576 - (n : Int)) = 1048576 - (n : Int) := IntWalk.i64_in _ (by omega)
  have e1 : decide (1048576 - (n : Int) < 0) = false := by simp; omega
  go_enter Tryd.func49, Tryd.ntmps49
  go_wp2_with fail
  go_ret
  exact ⟨rfl, rfl⟩
theorem szArms_big (n : Nat) (a : Option Addr) (c : Nat) (w : World) (hn : 1048576 < n) (hm : n ≤ maxLen) :
    Calls Tryd.prog 49 #[.slice a n c, .int .i64 1048576] w fun e w' => e = .returned (.int .i64 (-1)) ∧ w = w' := by
  have ew : IntKind.i64.wrap (1048576 - (n : Int)) = 1048576 - (n : Int) := IntWalk.i64_in _ (by unfold maxLen at hm; omega)
  have e1 : decide (1048576 - (n : Int) < 0) = true := by simp; omega
  go_enter Tryd.func49, Tryd.ntmps49
  go_wp2_with fail
  go_ret
  exact ⟨rfl, rfl⟩
set_option maxRecDepth 100000 in
set_option maxHeartbeats 8000000 in
theorem toArmsS_box (X : List Arm) (n : Nat) (a : Option Addr) (c : Nat) (w : World) (h : RdA w a n X) (hn : n ≤ 1048576) :
    Calls Tryd.prog 50 #[.slice a n c] w fun e w' => ∃ g : Nat, e = .returned (.slice (some ⟨g, 0, none⟩) n n) ∧ w.heap.size ≤ g ∧ RdA w' (some ⟨g, 0, none⟩) n X ∧ Below w.heap.size w w' ∧ (0 < n → ∃ L : List Value, L.length = n * 15 ∧ BoxF w' g L 37) := by
  obtain ⟨i0, hi, hz0, hz1, hz2⟩ := info_parts infoA5
  have HXl := Lib.hid h.1
  rcases Nat.eq_zero_or_pos n with hz | hz
  · subst hz
    have hX0 : X = [] := List.eq_nil_of_length_eq_zero h.1
    have HX := Lib.hid hX0
    clear h hX0
    go_enter Tryd.func50, Tryd.ntmps50
    go_wp2_with (at_make; refine wpList_make_full _ rfl _ _ 24 rfl w.heap.size 37 i0 (.agg #[.int .i64 0, .int .i64 0, .int .i64 0, .int .i64 0, .int .i64 0, .int .i64 0, .int .i64 0, .int .i64 0, .int .i64 0, .int .i64 0, .int .i64 0, .int .i64 0, .int .i64 0, .int .i64 0, .int .i64 0]) 15 Tryd.underlying24 hi hz0 hz1 .i64 .i64 0 0 0 rfl rfl rfl rfl (by rw [hz2]; omega) (by unfold maxLen; omega) (Nat.le_refl _) ?_; intro w1 hown1 hgr1)
    refine wp_loop_rounds 1 ?_
    rw [rounds_succ]
    go_wp2_with fail
    go_ret
    exact ⟨_, rfl, Nat.le_refl _, ⟨by rw [HX.out]; rfl, fun h => absurd h (by omega)⟩, (Below.refl _ _).grown hgr1 (Nat.le_refl _) (by simp), fun h => absurd h (by omega)⟩
  · obtain ⟨b, o, rfl, hb0, hc⟩ := h.2 hz
    have HC := Lib.hid hc
    have CT := Lib.hid (fun (A : Arm) W => toArms_any A.d A.l A.f A.s A.o A.n A.x A.c A.k A.a A.t A.c' A.k' A.a' A.t' W)
    clear h hc
    go_enter Tryd.func50, Tryd.ntmps50
    go_wp2_with (at_make; refine wpList_make_full _ rfl _ _ 24 rfl w.heap.size 37 i0 (.agg #[.int .i64 0, .int .i64 0, .int .i64 0, .int .i64 0, .int .i64 0, .int .i64 0, .int .i64 0, .int .i64 0, .int .i64 0, .int .i64 0, .int .i64 0, .int .i64 0, .int .i64 0, .int .i64 0, .int .i64 0]) 15 Tryd.underlying24 hi hz0 hz1 .i64 .i64 (n : Int) (n : Int) n rfl rfl rfl rfl (by rw [hz2]; omega) (by unfold maxLen; omega) (Nat.le_refl _) ?_; intro w1 hown1 hgr1)
    obtain ⟨L0, hL0, hbox0⟩ : ∃ L0 : List Value, L0.length = n * 15 ∧ BoxF w1 w.heap.size L0 37 := by
      have hlen := hown1.1
      rcases hown1.2 with ⟨h', _⟩ | ⟨g', cap', cur, h', _, hg, _, _, hcs, _⟩
      · simp at h'
      · simp only [Value.slice.injEq, Option.some.injEq, Addr.mk.injEq, and_true, true_and] at h'
        obtain ⟨rfl, rfl⟩ := h'
        exact ⟨cur.toList, by simpa using hcs, by unfold BoxF; simpa using hg⟩
    have hbel : Below w.heap.size w w1 := (Below.refl _ _).grown hgr1 (Nat.le_refl _) (by simp)
    clear hown1 hgr1
    go_loopw [4] (fun i wr => ∃ (k : Nat) (L : List Value), k ≤ n ∧ i = .int .i64 k ∧ BoxF wr w.heap.size L 37 ∧ Hid (L.length = n * 15) ∧ Hid (∀ i B, i < k → X[i]? = some B → ∀ j z, B.ints[j]? = some z → L[i * 15 + j]? = some (.int .i64 z)) ∧ Below w.heap.size w wr) (fun i _ => n - (intOf i).toNat)
    case atStart => exact ⟨0, L0, by omega, rfl, hbox0, by show _ = _; exact hL0, by show ∀ i B, i < 0 → _; intro i B h; omega, hbel⟩
    case round =>
      obtain ⟨k, L, hk, rfl, hbox, HLL, HF, hb⟩ := hrel
      clear hbox0 hbel hL0
      by_cases hlt : k < n
      · obtain ⟨A, hA, _⟩ := atA_of_lt HXl.out hlt
        have HA := Lib.hid hA
        have ka : ∀ j z, A.ints[j]? = some z → wr.cell? ⟨b, o + k * 15 + j, none⟩ = some (.int .i64 z) := fun j z hz => (hb.cell (p := ⟨b, o + k * 15 + j, none⟩) hb0).trans (HC.out k A hA j z hz)
        have ka := rdA_cells ka
        obtain ⟨x0, x1, x2, x3, x4, x5, x6, x7, x8, x9, x10, x11, x12, x13, x14⟩ := ka
        have HB := Lib.hid hb
        have BX := Lib.hid hbox
        clear hA hb hbox
        go_wp2_with fail
        refine (CT.out A _).mono ?_
        rintro e w2 ⟨rfl, g2⟩
        clear x0 x1 x2 x3 x4 x5 x6 x7 x8 x9 x10 x11 x12 x13 x14
        have BX2 := Lib.hid (BX.out.below g2)
        have HB2 := Lib.hid (HB.out.trans (g2.mono HB.out.size))
        clear g2 BX HB
        obtain ⟨u0, u1, u2, u3, u4, u5, u6, u7, u8, u9, u10, u11, u12, u13, u14, y0, y1, y2, y3, y4, y5, y6, y7, y8, y9, y10, y11, y12, y13, y14⟩ := row15 (i := k * 15) BX2.out (by have := HLL.out; omega)
        have uf := BX2.out.free
        go_wp2_with fail
        clear y0 y1 y2 y3 y4 y5 y6 y7 y8 y9 y10 y11 y12 y13 y14 uf
        have BX3 := chain_box (i := k * 15) (v0 := .int .i64 A.d) (v1 := .int .i64 A.l) (v2 := .int .i64 A.f) (v3 := .int .i64 A.s) (v4 := .int .i64 A.o) (v5 := .int .i64 A.n) (v6 := .int .i64 A.x) (v7 := .int .i64 A.c) (v8 := .int .i64 A.k) (v9 := .int .i64 A.a) (v10 := .int .i64 A.t) (v11 := .int .i64 A.c') (v12 := .int .i64 A.k') (v13 := .int .i64 A.a') (v14 := .int .i64 A.t') BX2.out
        have HB3 := chain_below (i := k * 15) (v0 := .int .i64 A.d) (v1 := .int .i64 A.l) (v2 := .int .i64 A.f) (v3 := .int .i64 A.s) (v4 := .int .i64 A.o) (v5 := .int .i64 A.n) (v6 := .int .i64 A.x) (v7 := .int .i64 A.c) (v8 := .int .i64 A.k) (v9 := .int .i64 A.a) (v10 := .int .i64 A.t) (v11 := .int .i64 A.c') (v12 := .int .i64 A.k') (v13 := .int .i64 A.a') (v14 := .int .i64 A.t') HB2.out (Nat.le_refl w.heap.size)
        generalize (((((((((((((((w2.setCell ⟨w.heap.size, k * 15, none⟩ (.int .i64 A.d)).setCell ⟨w.heap.size, k * 15 + 1, none⟩ (.int .i64 A.l)).setCell ⟨w.heap.size, k * 15 + 2, none⟩ (.int .i64 A.f)).setCell ⟨w.heap.size, k * 15 + 3, none⟩ (.int .i64 A.s)).setCell ⟨w.heap.size, k * 15 + 4, none⟩ (.int .i64 A.o)).setCell ⟨w.heap.size, k * 15 + 5, none⟩ (.int .i64 A.n)).setCell ⟨w.heap.size, k * 15 + 6, none⟩ (.int .i64 A.x)).setCell ⟨w.heap.size, k * 15 + 7, none⟩ (.int .i64 A.c)).setCell ⟨w.heap.size, k * 15 + 8, none⟩ (.int .i64 A.k)).setCell ⟨w.heap.size, k * 15 + 9, none⟩ (.int .i64 A.a)).setCell ⟨w.heap.size, k * 15 + 10, none⟩ (.int .i64 A.t)).setCell ⟨w.heap.size, k * 15 + 11, none⟩ (.int .i64 A.c')).setCell ⟨w.heap.size, k * 15 + 12, none⟩ (.int .i64 A.k')).setCell ⟨w.heap.size, k * 15 + 13, none⟩ (.int .i64 A.a')).setCell ⟨w.heap.size, k * 15 + 14, none⟩ (.int .i64 A.t')) = w3 at *
        go_roundw
        case rel => exact ⟨k + 1, _, by omega, by go_num, BX3, by show _ = _; rw [putL_len]; exact HLL.out, by show ∀ i B, i < k + 1 → _; exact fill_step HLL.out hlt HA.out HF.out, HB3⟩
        case measure => simp [intOf]; omega
      · have HR := Lib.hid (filled_rd hbox HXl.out (fun i B hB => HF.out i B (by have h1 := (List.getElem?_eq_some_iff.1 hB).1; have := HXl.out; omega) hB))
        have HB := Lib.hid hb
        have HX := Lib.hid hbox
        clear hbox hb
        go_wp2_with fail
        go_ret
        exact ⟨_, rfl, Nat.le_refl _, HR.out, HB.out, fun _ => ⟨L, HLL.out, HX.out⟩⟩
theorem toArmsS_any (X : List Arm) (n : Nat) (a : Option Addr) (c : Nat) (w : World) (h : RdA w a n X) (hn : n ≤ 1048576) :
    Calls Tryd.prog 50 #[.slice a n c] w fun e w' => ∃ g : Nat, e = .returned (.slice (some ⟨g, 0, none⟩) n n) ∧ w.heap.size ≤ g ∧ RdA w' (some ⟨g, 0, none⟩) n X ∧ Below w.heap.size w w' :=
  (toArmsS_box X n a c w h hn).mono fun _ _ ⟨g, h1, h2, h3, h4, _⟩ => ⟨g, h1, h2, h3, h4⟩
set_option maxRecDepth 100000 in
set_option maxHeartbeats 8000000 in
theorem eqArmsS_true (X : List Arm) (n : Nat) (a1 a2 : Option Addr) (c1 c2 : Nat) (w : World) (h1 : RdA w a1 n X) (h2 : RdA w a2 n X) (hn : n ≤ 1048577) :
    Calls Tryd.prog 52 #[.slice a1 n c1, .slice a2 n c2] w fun e w' => e = .returned (.bool true) ∧ Below w.heap.size w w' := by
  have en : ((n : Int) != (n : Int)) = false := by simp
  rcases Nat.eq_zero_or_pos n with h0 | h0
  · subst h0
    clear h1 h2
    go_enter Tryd.func52, Tryd.ntmps52
    go_wp2_with fail
    refine wp_loop_rounds 1 ?_
    rw [rounds_succ]
    go_wp2_with fail
    go_ret
    exact ⟨rfl, Below.refl _ _⟩
  · obtain ⟨b1, o1, rfl, hb1, hc1⟩ := h1.2 h0
    obtain ⟨b2, o2, rfl, hb2, hc2⟩ := h2.2 h0
    have HL := Lib.hid h1.1
    have H1 := Lib.hid hc1
    have H2 := Lib.hid hc2
    have CQ := Lib.hid (fun (A : Arm) W => eqArms_same A.d A.l A.f A.s A.o A.n A.x A.c A.k A.a A.t A.c' A.k' A.a' A.t' W)
    clear h1 h2 hc1 hc2
    go_enter Tryd.func52, Tryd.ntmps52
    go_wp2_with fail
    go_loopw [5] (fun i wr => ∃ k : Nat, k ≤ n ∧ i = .int .i64 k ∧ Below w.heap.size w wr) (fun i _ => n - (intOf i).toNat)
    case atStart => exact ⟨0, Nat.zero_le _, rfl, Below.refl _ _⟩
    case round =>
      obtain ⟨k, hk, rfl, hb⟩ := hrel
      by_cases hlt : k < n
      · obtain ⟨A, hA, _⟩ := atA_of_lt HL.out hlt
        have ka : ∀ j z, A.ints[j]? = some z → wr.cell? ⟨b1, o1 + k * 15 + j, none⟩ = some (.int .i64 z) := fun j z hz => (hb.cell (p := ⟨b1, o1 + k * 15 + j, none⟩) hb1).trans (H1.out k A hA j z hz)
        have ka := rdA_cells ka
        obtain ⟨x0, x1, x2, x3, x4, x5, x6, x7, x8, x9, x10, x11, x12, x13, x14⟩ := ka
        have kb : ∀ j z, A.ints[j]? = some z → wr.cell? ⟨b2, o2 + k * 15 + j, none⟩ = some (.int .i64 z) := fun j z hz => (hb.cell (p := ⟨b2, o2 + k * 15 + j, none⟩) hb2).trans (H2.out k A hA j z hz)
        have kb := rdA_cells kb
        obtain ⟨y0, y1, y2, y3, y4, y5, y6, y7, y8, y9, y10, y11, y12, y13, y14⟩ := kb
        have HB := Lib.hid hb
        clear hA hb
        go_wp2_with fail
        go_region_with (first
          | (go_at_call 64; (with_reducible refine (CQ.out A _).mono ?_); rintro e w2 ⟨rfl, g2⟩; have hS : Below wr.heap.size wr w2 := ⟨g2.os, g2.tape, g2.output, g2.size, g2.block⟩; have HB2 := Lib.hid (HB.out.trans (hS.mono HB.out.size)); clear hS g2))
        all_goals
          clear x0 x1 x2 x3 x4 x5 x6 x7 x8 x9 x10 x11 x12 x13 x14 y0 y1 y2 y3 y4 y5 y6 y7 y8 y9 y10 y11 y12 y13 y14
          go_wp2_with fail
          go_roundw
          case rel => exact ⟨k + 1, by omega, by go_num, HB2.out⟩
          case measure => simp [intOf]; omega
      · have HB := Lib.hid hb
        clear hb
        go_wp2_with fail
        go_ret
        exact ⟨rfl, HB.out⟩
end Go.Proofs.YtgoelkgdjnhklaaDoor
