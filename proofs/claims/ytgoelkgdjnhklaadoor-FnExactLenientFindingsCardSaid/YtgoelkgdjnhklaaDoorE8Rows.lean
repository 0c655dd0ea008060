/- Contracts: the laws' eqFindingS, markFindingS and heldFindingS. -/
import Derived.Test.YtgoelkgdjnhklaaDoorE8Find
import Derived.Test.YtgoelkgdjnhklaaDoorKA
import Derived.Deep.RegionWith
import Derived.Deep.LoopGhost
namespace Go.Proofs.YtgoelkgdjnhklaaDoor
open Go.RowKit

theorem fcells_at : ∀ {X : List Fnd} {k : Nat} {F : Fnd}, X[k]? = some F → (fcells X)[k * 3]? = some (.int .i64 F.p) ∧ (fcells X)[k * 3 + 1]? = some (.int .i64 F.u) ∧ (fcells X)[k * 3 + 2]? = some (.int .i64 F.l)
  | [], _, _, h => by simp at h
  | G :: X, 0, F, h => by
    simp at h
    subst h
    exact ⟨rfl, rfl, rfl⟩
  | G :: X, k + 1, F, h => by
    have ih := fcells_at (X := X) (k := k) (F := F) (by simpa using h)
    have e : fcells (G :: X) = fcell G ++ fcells X := rfl
    have q : ∀ j, (fcells (G :: X))[j + 3]? = (fcells X)[j]? := fun j => by
      rw [e, List.getElem?_append_right (by simp [fcell])]; simp [fcell]
    have e0 : (k + 1) * 3 = k * 3 + 3 := by omega
    have e1 : (k + 1) * 3 + 1 = (k * 3 + 1) + 3 := by omega
    have e2 : (k + 1) * 3 + 2 = (k * 3 + 2) + 3 := by omega
    rw [e0, q, show k * 3 + 3 + 1 = (k * 3 + 1) + 3 by omega, q, show k * 3 + 3 + 2 = (k * 3 + 2) + 3 by omega, q]
    exact ih
/-- The slice of address a reads as these findings; its cells are old ones. -/
def RdFn (w : World) (a : Option Addr) (n : Nat) (X : List Fnd) : Prop :=
  X.length = n ∧ (0 < n → ∃ b o, a = some ⟨b, o, none⟩ ∧ b < w.heap.size ∧ ∀ k F, X[k]? = some F → w.cell? ⟨b, o + k * 3, none⟩ = some (.int .i64 F.p) ∧ w.cell? ⟨b, o + k * 3 + 1, none⟩ = some (.int .i64 F.u) ∧ w.cell? ⟨b, o + k * 3 + 2, none⟩ = some (.int .i64 F.l))
theorem RdFn.below {w w' : World} {a : Option Addr} {n : Nat} {X : List Fnd} (h : RdFn w a n X) (hb : Below w.heap.size w w') : RdFn w' a n X :=
  ⟨h.1, fun hn => by
    obtain ⟨b, o, e, hlt, hc⟩ := h.2 hn
    exact ⟨b, o, e, Nat.lt_of_lt_of_le hlt hb.size, fun k F hk => ⟨(hb.cell (p := ⟨b, o + k * 3, none⟩) hlt).trans (hc k F hk).1, (hb.cell (p := ⟨b, o + k * 3 + 1, none⟩) hlt).trans (hc k F hk).2.1, (hb.cell (p := ⟨b, o + k * 3 + 2, none⟩) hlt).trans (hc k F hk).2.2⟩⟩⟩
theorem OwnFn.shape {w : World} {B cap : Nat} {a : Option Addr} {X : List Fnd} (h : OwnFn w B (.slice a X.length cap) X) : (a = none ∧ cap = 0 ∧ X = []) ∨ ∃ g, a = some ⟨g, 0, none⟩ ∧ B ≤ g ∧ g < w.heap.size := by
  have hlt := World.ownsRow.lt h
  rcases h.2 with ⟨h1, h2⟩ | ⟨g, cp, cur, h1, h2, h3, _⟩
  · simp only [Value.slice.injEq] at h1
    exact .inl ⟨h1.1, h1.2.2, List.eq_nil_of_length_eq_zero h1.2.1⟩
  · simp only [Value.slice.injEq] at h1
    obtain ⟨rfl, _, _⟩ := h1
    exact .inr ⟨g, rfl, h2, (hlt g rfl).2⟩
theorem OwnFn.rd {w : World} {B cap : Nat} {a : Option Addr} {X : List Fnd} (h : OwnFn w B (.slice a X.length cap) X) : RdFn w a X.length X := by
  refine ⟨rfl, fun hn => ?_⟩
  rcases h.shape with ⟨_, _, rfl⟩ | ⟨g, rfl, _, hg⟩
  · simp at hn
  · refine ⟨g, 0, rfl, hg, fun k F hk => ?_⟩
    have hkl : k < X.length := (List.getElem?_eq_some_iff.1 hk).1
    obtain ⟨c0, c1, c2⟩ := fcells_at hk
    refine ⟨?_, ?_, ?_⟩
    · rw [Nat.zero_add]; exact (World.ownsRow.cellAt h (k * 3) (by omega)).trans c0
    · rw [Nat.zero_add]; exact (World.ownsRow.cellAt h (k * 3 + 1) (by omega)).trans c1
    · rw [Nat.zero_add]; exact (World.ownsRow.cellAt h (k * 3 + 2) (by omega)).trans c2
theorem atF_of_lt {X : List Fnd} {k n : Nat} (hX : X.length = n) (hk : k < n) : ∃ F, X[k]? = some F := ⟨X[k]'(by omega), List.getElem?_eq_getElem (by omega)⟩

theorem rdFn_of {w : World} {B n cap : Nat} {a : Option Addr} {X : List Fnd} (hX : X.length = n) (h : OwnFn w B (.slice a n cap) X) : RdFn w a n X := by
  subst hX; exact h.rd
theorem rdFn_grown {w0 w w' : World} {a : Option Addr} {n : Nat} {X : List Fnd} {row : Option Nat} (h0 : RdFn w0 a n X) (h : RdFn w a n X) (hg : w.grownBy w' row) (hne : ∀ q, row = some q → w0.heap.size ≤ q) : RdFn w' a n X :=
  ⟨h.1, fun hn => by
    obtain ⟨b0, o0, e0, hlt0, _⟩ := h0.2 hn
    obtain ⟨b, o, e, hlt, hc⟩ := h.2 hn
    rw [e0] at e
    cases e
    have q : some b0 ≠ row := fun e => by have := hne b0 e.symm; omega
    exact ⟨b0, o0, e0, Nat.lt_of_lt_of_le hlt hg.size, fun k F hk => ⟨hg.cell (hc k F hk).1 q, hg.cell (hc k F hk).2.1 q, hg.cell (hc k F hk).2.2 q⟩⟩⟩
theorem eqFinding_same (F : Fnd) (w : World) :
    Calls Tryd.prog 63 #[.agg #[.int .i64 F.p, .int .i64 F.u, .int .i64 F.l], .agg #[.int .i64 F.p, .int .i64 F.u, .int .i64 F.l]] w fun e w' => e = .returned (.bool true) ∧ Below w.heap.size w w' := by
  obtain ⟨p, u, l⟩ := F
  have e1 : (p != p) = false := by simp
  have e2 : (u != u) = false := by simp
  have e3 : (l != l) = false := by simp
  go_enter Tryd.func63, Tryd.ntmps63
  go_wp2_with fail
  go_ret
  exact ⟨rfl, ((Below.refl _ _).alloc (Nat.le_refl _) _).alloc (by simp) _⟩
set_option maxRecDepth 100000 in
set_option maxHeartbeats 8000000 in
theorem eqFindingS_true (X : List Fnd) (n : Nat) (a1 a2 : Option Addr) (c1 c2 : Nat) (w : World) (h1 : RdFn w a1 n X) (h2 : RdFn w a2 n X) (hn : n ≤ 1048577) :
    Calls Tryd.prog 57 #[.slice a1 n c1, .slice a2 n c2] w fun e w' => e = .returned (.bool true) ∧ Below w.heap.size w w' := by
  have en : ((n : Int) != (n : Int)) = false := by simp
  rcases Nat.eq_zero_or_pos n with h0 | h0
  · subst h0
    clear h1 h2
    go_enter Tryd.func57, Tryd.ntmps57
    go_wp2_with fail
    refine wp_loop_rounds 1 ?_
    rw [rounds_succ]
    go_wp2_with fail
    go_ret
    exact ⟨rfl, Below.refl _ _⟩
  · obtain ⟨b1, o1, rfl, hb1, hc1⟩ := h1.2 h0
    obtain ⟨b2, o2, rfl, hb2, hc2⟩ := h2.2 h0
    have HL := Lib.hid h1.1
    have H1 := Lib.hid hc1
    have H2 := Lib.hid hc2
    have CQ := Lib.hid (fun (F : Fnd) W => eqFinding_same F W)
    clear h1 h2 hc1 hc2
    go_enter Tryd.func57, Tryd.ntmps57
    go_wp2_with fail
    go_loopw [5] (fun i wr => ∃ k : Nat, k ≤ n ∧ i = .int .i64 k ∧ Below w.heap.size w wr) (fun i _ => n - (intOf i).toNat)
    case atStart => exact ⟨0, Nat.zero_le _, rfl, Below.refl _ _⟩
    case round =>
      obtain ⟨k, hk, rfl, hb⟩ := hrel
      by_cases hlt : k < n
      · obtain ⟨F, hF⟩ := atF_of_lt HL.out hlt
        obtain ⟨x0, x1, x2⟩ := H1.out k F hF
        obtain ⟨y0, y1, y2⟩ := H2.out k F hF
        have x0 := (hb.cell (p := ⟨b1, o1 + k * 3, none⟩) hb1).trans x0
        have x1 := (hb.cell (p := ⟨b1, o1 + k * 3 + 1, none⟩) hb1).trans x1
        have x2 := (hb.cell (p := ⟨b1, o1 + k * 3 + 2, none⟩) hb1).trans x2
        have y0 := (hb.cell (p := ⟨b2, o2 + k * 3, none⟩) hb2).trans y0
        have y1 := (hb.cell (p := ⟨b2, o2 + k * 3 + 1, none⟩) hb2).trans y1
        have y2 := (hb.cell (p := ⟨b2, o2 + k * 3 + 2, none⟩) hb2).trans y2
        have HB := Lib.hid hb
        clear hF hb
        go_wp2_with fail
        go_region_with (first
          | (go_at_call 63; (with_reducible refine (CQ.out F _).mono ?_); rintro e w2 ⟨rfl, g2⟩; have hS : Below wr.heap.size wr w2 := ⟨g2.os, g2.tape, g2.output, g2.size, g2.block⟩; have HB2 := Lib.hid (HB.out.trans (hS.mono HB.out.size)); clear hS g2))
        all_goals
          clear x0 x1 x2 y0 y1 y2
          go_wp2_with fail
          go_roundw
          case rel => exact ⟨k + 1, by omega, by go_num, HB2.out⟩
          case measure => simp [intOf]; omega
      · have HB := Lib.hid hb
        clear hb
        go_wp2_with fail
        go_ret
        exact ⟨rfl, HB.out⟩
set_option maxRecDepth 100000 in
set_option maxHeartbeats 8000000 in
theorem markF_row (xs : List Value) (n g cap B : Nat) (w : World) (hown : w.ownsRow B 52 3 (.slice (some ⟨g, 0, none⟩) n cap) n xs) (hn : n ≤ 1000) :
    Calls Tryd.prog 58 #[.slice (some ⟨g, 0, none⟩) n cap, .int .i64 1] w fun e w' => e = .returned (.int .i64 (1 + (n : Int) * 3)) ∧ w'.ownsRow B 52 3 (.slice (some ⟨g, 0, none⟩) n cap) n (markedI 1 xs (n * 3)) ∧ w.grownBy w' (some g) := by
  have hlen : xs.length = n * 3 := by have := hown.1; omega
  go_enter Tryd.func58, Tryd.ntmps58
  go_wp2_with fail
  go_loopg [1, 5] n (fun gh kk i wr => ∃ j : Nat, j + gh = n ∧ i = .int .i64 j ∧ kk = .int .i64 (1 + (j : Int) * 3) ∧ wr.ownsRow B 52 3 (.slice (some ⟨g, 0, none⟩) n cap) n (markedI 1 xs (j * 3)) ∧ w.grownBy wr (some g))
  case atStart => exact ⟨0, by omega, rfl, by simp, by rw [Nat.zero_mul, markedI_zero]; exact hown, World.grownBy.refl _ _⟩
  case round =>
    obtain ⟨j, hj, rfl, rfl, ho, hgr⟩ := hrel
    by_cases hlt : j < n
    · obtain ⟨gh, rfl⟩ : ∃ gh, gk = gh + 1 := ⟨gk - 1, by omega⟩
      have v0 : ((1 + j * 3 : Nat) : Int) = 1 + (j : Int) * 3 := by omega
      have v1 : ((1 + (j * 3 + 1) : Nat) : Int) = 1 + (j : Int) * 3 + 1 := by omega
      have v2 : ((1 + (j * 3 + 2) : Nat) : Int) = 1 + (j : Int) * 3 + 1 + 1 := by omega
      have s0 := markedI_set (k0 := 1) (xs := xs) (j := j * 3) (by omega)
      have s1 := markedI_set (k0 := 1) (xs := xs) (j := j * 3 + 1) (by omega)
      have s2 := markedI_set (k0 := 1) (xs := xs) (j := j * 3 + 2) (by omega)
      rw [v0] at s0
      rw [v1] at s1
      rw [v2] at s2
      have m0 := ho.stored (j * 3) (.int .i64 (1 + (j : Int) * 3))
      rw [s0] at m0
      have m1 := m0.1.stored (j * 3 + 1) (.int .i64 (1 + (j : Int) * 3 + 1))
      rw [s1] at m1
      have m2 := m1.1.stored (j * 3 + 2) (.int .i64 (1 + (j : Int) * 3 + 1 + 1))
      rw [s2] at m2
      obtain ⟨u0, hu0⟩ := markedI_at (k0 := 1) (xs := xs) (j := j * 3) (by omega)
      obtain ⟨u1, hu1⟩ := markedI_at (k0 := 1) (xs := xs) (j := j * 3 + 1) (by omega)
      obtain ⟨u2, hu2⟩ := markedI_at (k0 := 1) (xs := xs) (j := j * 3 + 2) (by omega)
      have hc0 := (ho.cellAt (j * 3) (by omega)).trans hu0
      have hf0 := ho.frozenAt (j * 3)
      have hc1 := (m0.1.cellAt (j * 3 + 1) (by omega)).trans hu1
      have hf1 := m0.1.frozenAt (j * 3 + 1)
      have hc2 := (m1.1.cellAt (j * 3 + 2) (by omega)).trans hu2
      have hf2 := m1.1.frozenAt (j * 3 + 2)
      have HM := Lib.hid (And.intro m2.1 (hgr.trans (m0.2.trans (m1.2.trans m2.2))))
      clear s0 s1 s2 m0 m1 m2 hu0 hu1 hu2 v0 v1 v2 hlen hown ho hgr
      go_wp2_with fail
      go_roundg gh
      case measure => omega
      case rel => exact ⟨j + 1, by omega, by go_num, by go_num, by rw [show (j + 1) * 3 = j * 3 + 2 + 1 by omega]; exact HM.out.1, HM.out.2⟩
    · obtain rfl : j = n := by omega
      have HO := Lib.hid ho
      have HG := Lib.hid hgr
      clear ho hgr
      go_wp2_with fail
      go_ret
      exact ⟨rfl, HO.out, HG.out⟩
theorem markF_nil (a : Option Addr) (c : Nat) (w : World) :
    Calls Tryd.prog 58 #[.slice a 0 c, .int .i64 1] w fun e w' => e = .returned (.int .i64 1) ∧ w = w' := by
  go_enter Tryd.func58, Tryd.ntmps58
  go_wp2_with fail
  refine wp_loop_rounds 1 ?_
  rw [rounds_succ]
  go_wp2_with fail
  go_ret
  exact ⟨rfl, rfl⟩
/-- The cells are marked from 1 on. -/
def HeldF (w : World) (a : Option Addr) (n : Nat) : Prop := 0 < n → ∃ b o, a = some ⟨b, o, none⟩ ∧ b < w.heap.size ∧ ∀ i, i < n * 3 → w.cell? ⟨b, o + i, none⟩ = some (.int .i64 (1 + (i : Int)))
theorem HeldF.below {w w' : World} {a : Option Addr} {n : Nat} (h : HeldF w a n) (hb : Below w.heap.size w w') : HeldF w' a n := fun hn => by
  obtain ⟨b, o, e, hlt, hc⟩ := h hn
  exact ⟨b, o, e, Nat.lt_of_lt_of_le hlt hb.size, fun i hi => (hb.cell (p := ⟨b, o + i, none⟩) hlt).trans (hc i hi)⟩
theorem markF1 (X : List Fnd) (n B cap : Nat) (a : Option Addr) (w : World) (hX : X.length = n) (hown : OwnFn w B (.slice a n cap) X) (hn : n ≤ 1000) :
    Calls Tryd.prog 58 #[.slice a n cap, .int .i64 1] w fun e w' => e = .returned (.int .i64 (1 + (n : Int) * 3)) ∧ HeldF w' a n ∧ w.grownBy w' (Value.slice a n cap).ownBlock := by
  subst hX
  rcases hown.shape with ⟨rfl, rfl, rfl⟩ | ⟨g, rfl, _, _⟩
  · exact (markF_nil _ _ _).mono fun e w' ⟨he, hw⟩ => ⟨he, fun h => absurd h (by simp), by subst hw; exact World.grownBy.refl _ _⟩
  · exact (markF_row (fcells X) X.length g cap B w hown hn).mono fun e w' ⟨he, ho, hg⟩ => ⟨he, fun _ => ⟨g, 0, rfl, (World.ownsRow.lt ho g rfl).2, fun i hi => by
      rw [Nat.zero_add]
      refine (ho.cellAt i hi).trans ?_
      rw [markedI_all (fcells_len X)]
      simp [hi]⟩, hg⟩
set_option maxRecDepth 100000 in
set_option maxHeartbeats 8000000 in
theorem heldF1 (n : Nat) (a : Option Addr) (c : Nat) (w : World) (h : HeldF w a n) (hn : n ≤ 1000) :
    Calls Tryd.prog 59 #[.slice a n c, .int .i64 1] w fun e w' => e = .returned (.int .i64 (1 + (n : Int) * 3)) ∧ ∃ m, w' = w.drewN m := by
  rcases Nat.eq_zero_or_pos n with h0 | h0
  · subst h0
    clear h
    go_enter Tryd.func59, Tryd.ntmps59
    go_wp2_with fail
    refine wp_loop_rounds 1 ?_
    rw [rounds_succ]
    go_wp2_with fail
    go_ret
    exact ⟨by simp, 0, rfl⟩
  · obtain ⟨b, o, rfl, hlt0, hc⟩ := h h0
    clear h
    have H := Lib.hid hc
    clear hc
    go_enter Tryd.func59, Tryd.ntmps59
    go_wp2_with fail
    go_loopg [1, 5] n (fun gh kk i wr => ∃ j q : Nat, j + gh = n ∧ i = .int .i64 j ∧ kk = .int .i64 (1 + (j : Int) * 3) ∧ wr = w.drewN q)
    case atStart => exact ⟨0, 0, by omega, rfl, by simp, rfl⟩
    case round =>
      obtain ⟨j, q, hj, rfl, rfl, rfl⟩ := hrel
      by_cases hlt : j < n
      · obtain ⟨gh, rfl⟩ : ∃ gh, gk = gh + 1 := ⟨gk - 1, by omega⟩
        have g0 : w.cell? ⟨b, o + j * 3, none⟩ = some (.int .i64 (1 + (j : Int) * 3)) := by
          have := H.out (j * 3) (by omega)
          rwa [show ((j * 3 : Nat) : Int) = (j : Int) * 3 by omega] at this
        have g1 : w.cell? ⟨b, o + j * 3 + 1, none⟩ = some (.int .i64 (1 + (j : Int) * 3 + 1)) := by
          have := H.out (j * 3 + 1) (by omega)
          rw [show 1 + ((j * 3 + 1 : Nat) : Int) = 1 + (j : Int) * 3 + 1 by omega] at this
          exact this
        have g2 : w.cell? ⟨b, o + j * 3 + 2, none⟩ = some (.int .i64 (1 + (j : Int) * 3 + 1 + 1)) := by
          have := H.out (j * 3 + 2) (by omega)
          rw [show 1 + ((j * 3 + 2 : Nat) : Int) = 1 + (j : Int) * 3 + 1 + 1 by omega] at this
          exact this
        go_wp2_with fail
        go_roundg gh
        case measure => omega
        case rel => exact ⟨j + 1, _, by omega, by go_num, by go_num, rfl⟩
      · obtain rfl : j = n := by omega
        go_wp2_with fail
        go_ret
        exact ⟨rfl, q, rfl⟩
end Go.Proofs.YtgoelkgdjnhklaaDoor
