/- Several small texts in one: C9B, C9D. -/
import Derived.Test.YthapidnjioindaaDoorKID
import Derived.Test.YthapidnjioindaaDoorShelf
import Derived.Lib.ItoaNum
import Derived.Lib.TrailingZeros
import Derived.Lib.LaidTab
import Derived.LaidSub
import Derived.LaidMore
import Derived.MakeChecks
import Derived.Test.YthapidnjioindaaDoorRows
namespace Go.Proofs.YthapidnjioindaaDoor
open Go.RowKit

/-- Row y as a number. -/
def NX (X : List Int) (y : Nat) : Nat := (X.getD y 0).toNat
theorem NX_eq {X : List Int} (h : goodR X = true) {y : Nat} (hy : y < 24) : X.getD y 0 = ((NX X y : Nat) : Int) := (goodR_nat h hy).1
theorem NX_lt {X : List Int} (h : goodR X = true) {y : Nat} (hy : y < 24) : NX X y < 1048576 := (goodR_nat h hy).2
/-- The places in row y behind whose side k the region has a cell. -/
def besN (X : List Int) (y k : Nat) : Nat := if k = 0 then 2 * NX X y else if k = 1 then NX X y / 2 else if k = 2 then (if y = 0 then 0 else NX X (y - 1)) else (if y + 1 < 24 then NX X (y + 1) else 0)
set_option maxRecDepth 100000 in
set_option maxHeartbeats 4000000 in
theorem besideRow_any (X : List Int) (a : Option Addr) (c y : Nat) (w : World) (h : RdI w a 24 X) (hN : ∀ j, j < 24 → X.getD j 0 = ((NX X j : Nat) : Int)) (hL : ∀ j, j < 24 → NX X j < 1048576) (hy : y < 24) :
    Calls Tryd.prog 83 #[.slice a 24 c, .int .i64 (y : Int)] w fun e w' => e = .returned (.agg #[.int .i64 (besN X y 0 : Int), .int .i64 (besN X y 1 : Int), .int .i64 (besN X y 2 : Int), .int .i64 (besN X y 3 : Int)]) ∧ Below w.heap.size w w' := by
  obtain ⟨b, o, rfl, hb, hc⟩ := h.2 (by omega)
  have x0 := hc y hy
  rw [hN y hy] at x0
  have l0 := hL y hy
  by_cases hy0 : y = 0
  · subst hy0
    have x1 := hc 1 (by omega)
    rw [hN 1 (by omega)] at x1
    rw [Nat.add_zero] at x0
    rw [show besN X 0 0 = 2 * NX X 0 from rfl, show besN X 0 1 = NX X 0 / 2 from rfl, show besN X 0 2 = 0 from rfl, show besN X 0 3 = NX X 1 from rfl]
    generalize NX X 0 = N0 at *
    generalize NX X 1 = N1 at *
    clear hc hN hL h
    go_enter Tryd.func83, Tryd.ntmps83
    go_wp2_with fail
    go_region
    go_wp2_with fail
    have XX := ((BoxF.new w [.int .i64 ((N0 : Int) * 2), .int .i64 ((N0 : Int) / 2), .int .i64 0, .int .i64 (N1 : Int)] 99).alloc (.cells #[.int .i64 ((N0 : Int) * 2), .int .i64 ((N0 : Int) / 2), .int .i64 0, .int .i64 (N1 : Int)] 99 (0, 0))).drew 1
    have z0 := XX.at 0
    have z1 := XX.at 1
    have z2 := XX.at 2
    have z3 := XX.at 3
    simp only [List.getElem?_cons_zero, List.getElem?_cons_succ] at z0 z1 z2 z3
    have q0 : ((2 * N0 : Nat) : Int) = (N0 : Int) * 2 := by omega
    have q1 : ((N0 / 2 : Nat) : Int) = (N0 : Int) / 2 := by omega
    have HBq := Lib.hid (below_drewN' (((Below.refl _ w).alloc (Nat.le_refl _) (.cells #[.int .i64 ((N0 : Int) * 2), .int .i64 ((N0 : Int) / 2), .int .i64 0, .int .i64 (N1 : Int)] 99 (0, 0))).alloc (by simp) (.cells #[.int .i64 ((N0 : Int) * 2), .int .i64 ((N0 : Int) / 2), .int .i64 0, .int .i64 (N1 : Int)] 99 (0, 0))) 1)
    clear XX
    change World.cell? (World.drew _) _ = _ at z0 z1 z2 z3
    exact bodyPost_ret (v := .agg #[.int .i64 ((N0 : Int) * 2), .int .i64 ((N0 : Int) / 2), .int .i64 0, .int .i64 (N1 : Int)]) (by simp [results, Tryd.results83, go_sem, z0, z1, z2, z3]) rfl ⟨by first | (rw [q0, q1]; done) | (rw [q0, q1]; rfl), HBq.out⟩
  · have x2 := hc (y - 1) (by omega)
    rw [hN (y - 1) (by omega)] at x2
    have ey : ((y - 1 : Nat) : Int) = (y : Int) - 1 := by omega
    have dy : decide (0 < (y : Int)) = true := decide_eq_true (by omega)
    rw [show besN X y 0 = 2 * NX X y from rfl, show besN X y 1 = NX X y / 2 from rfl, show besN X y 2 = NX X (y - 1) by unfold besN; simp [hy0]]
    by_cases hy1 : y + 1 < 24
    · have x1 := hc (y + 1) hy1
      rw [hN (y + 1) hy1] at x1
      rw [show besN X y 3 = NX X (y + 1) by unfold besN; simp [hy1]]
      have d1 : decide ((y : Int) + 1 < 24) = true := decide_eq_true (by omega)
      obtain ⟨u, hu⟩ : ∃ u, y - 1 = u := ⟨_, rfl⟩
      obtain ⟨v, hv⟩ : ∃ v, y + 1 = v := ⟨_, rfl⟩
      rw [hu] at x2 ey ⊢
      rw [hv] at x1 ⊢
      have hu2 : ((y : Int) - 1) = (u : Int) := ey.symm
      have hv2 : ((y : Int) + 1) = (v : Int) := by omega
      have hu3 : u < 24 := by omega
      have hv3 : v < 24 := by omega
      rw [hv2] at d1
      generalize NX X y = N0 at *
      generalize NX X u = N2 at *
      generalize NX X v = N1 at *
      clear hc hN hL h hu hv hy0 hy1 ey
      go_enter Tryd.func83, Tryd.ntmps83
      go_wp2_with fail
      go_region
      go_wp2_with fail
      have XX := ((BoxF.new w [.int .i64 ((N0 : Int) * 2), .int .i64 ((N0 : Int) / 2), .int .i64 (N2 : Int), .int .i64 (N1 : Int)] 99).alloc (.cells #[.int .i64 ((N0 : Int) * 2), .int .i64 ((N0 : Int) / 2), .int .i64 (N2 : Int), .int .i64 (N1 : Int)] 99 (0, 0))).drew 1
      have z0 := XX.at 0
      have z1 := XX.at 1
      have z2 := XX.at 2
      have z3 := XX.at 3
      simp only [List.getElem?_cons_zero, List.getElem?_cons_succ] at z0 z1 z2 z3
      have q0 : ((2 * N0 : Nat) : Int) = (N0 : Int) * 2 := by omega
      have q1 : ((N0 / 2 : Nat) : Int) = (N0 : Int) / 2 := by omega
      have HBq := Lib.hid (below_drewN' (((Below.refl _ w).alloc (Nat.le_refl _) (.cells #[.int .i64 ((N0 : Int) * 2), .int .i64 ((N0 : Int) / 2), .int .i64 (N2 : Int), .int .i64 (N1 : Int)] 99 (0, 0))).alloc (by simp) (.cells #[.int .i64 ((N0 : Int) * 2), .int .i64 ((N0 : Int) / 2), .int .i64 (N2 : Int), .int .i64 (N1 : Int)] 99 (0, 0))) 1)
      clear XX
      change World.cell? (World.drew _) _ = _ at z0 z1 z2 z3
      exact bodyPost_ret (v := .agg #[.int .i64 ((N0 : Int) * 2), .int .i64 ((N0 : Int) / 2), .int .i64 (N2 : Int), .int .i64 (N1 : Int)]) (by simp [results, Tryd.results83, go_sem, z0, z1, z2, z3]) rfl ⟨by first | (rw [q0, q1]; done) | (rw [q0, q1]; rfl), HBq.out⟩
    · rw [show besN X y 3 = 0 by unfold besN; simp [hy1]]
      have d1 : decide ((y : Int) + 1 < 24) = false := decide_eq_false (by omega)
      obtain ⟨u, hu⟩ : ∃ u, y - 1 = u := ⟨_, rfl⟩
      rw [hu] at x2 ey ⊢
      have hu2 : ((y : Int) - 1) = (u : Int) := ey.symm
      have hu3 : u < 24 := by omega
      generalize NX X y = N0 at *
      generalize NX X u = N2 at *
      clear hc hN hL h hu hy0 hy1 ey
      go_enter Tryd.func83, Tryd.ntmps83
      go_wp2_with fail
      go_region
      go_wp2_with fail
      have XX := ((BoxF.new w [.int .i64 ((N0 : Int) * 2), .int .i64 ((N0 : Int) / 2), .int .i64 (N2 : Int), .int .i64 0] 99).alloc (.cells #[.int .i64 ((N0 : Int) * 2), .int .i64 ((N0 : Int) / 2), .int .i64 (N2 : Int), .int .i64 0] 99 (0, 0))).drew 1
      have z0 := XX.at 0
      have z1 := XX.at 1
      have z2 := XX.at 2
      have z3 := XX.at 3
      simp only [List.getElem?_cons_zero, List.getElem?_cons_succ] at z0 z1 z2 z3
      have q0 : ((2 * N0 : Nat) : Int) = (N0 : Int) * 2 := by omega
      have q1 : ((N0 / 2 : Nat) : Int) = (N0 : Int) / 2 := by omega
      have HBq := Lib.hid (below_drewN' (((Below.refl _ w).alloc (Nat.le_refl _) (.cells #[.int .i64 ((N0 : Int) * 2), .int .i64 ((N0 : Int) / 2), .int .i64 (N2 : Int), .int .i64 0] 99 (0, 0))).alloc (by simp) (.cells #[.int .i64 ((N0 : Int) * 2), .int .i64 ((N0 : Int) / 2), .int .i64 (N2 : Int), .int .i64 0] 99 (0, 0))) 1)
      clear XX
      change World.cell? (World.drew _) _ = _ at z0 z1 z2 z3
      exact bodyPost_ret (v := .agg #[.int .i64 ((N0 : Int) * 2), .int .i64 ((N0 : Int) / 2), .int .i64 (N2 : Int), .int .i64 0]) (by simp [results, Tryd.results83, go_sem, z0, z1, z2, z3]) rfl ⟨by first | (rw [q0, q1]; done) | (rw [q0, q1]; rfl), HBq.out⟩
/-- The model's places beside a cell. -/
def bxZ (x : Int) (k : Nat) : Int := if k = 0 then x - 1 else if k = 1 then x + 1 else x
def byZ (y : Int) (k : Nat) : Int := if k = 2 then y - 1 else if k = 3 then y + 1 else y
/-- The four places lie there. -/
def Lies4 (W : World) (p : Nat) (x y : Int) : Prop := ∀ k, k < 4 → ∃ g : Nat, W.cell? ⟨p, k, none⟩ = some (.slice (some ⟨g, 0, none⟩) 2 2) ∧ W.cell? ⟨g, 0, none⟩ = some (.int .i64 (bxZ x k)) ∧ W.cell? ⟨g, 1, none⟩ = some (.int .i64 (byZ y k)) ∧ p < W.heap.size ∧ g < W.heap.size
theorem Lies4.below {W W' : World} {p : Nat} {x y : Int} (h : Lies4 W p x y) (hb : Below W.heap.size W W') : Lies4 W' p x y := fun k hk => by
  obtain ⟨g, h1, h2, h3, h4, h5⟩ := h k hk
  have hs := hb.size
  exact ⟨g, (hb.cell (p := ⟨p, k, none⟩) h4).trans h1, (hb.cell (p := ⟨g, 0, none⟩) h5).trans h2, (hb.cell (p := ⟨g, 1, none⟩) h5).trans h3, by omega, by omega⟩
set_option maxRecDepth 100000 in
set_option maxHeartbeats 2000000 in
theorem l9Beside_any (x y : Int) (w : World) (hx0 : 0 ≤ x) (hx1 : x ≤ 100) (hy0 : 0 ≤ y) (hy1 : y ≤ 100) :
    Calls Tryd.prog 86 #[.int .i64 x, .int .i64 y] w fun e w' => ∃ p : Nat, e = .returned (.slice (some ⟨p, 0, none⟩) 4 4) ∧ Lies4 w' p x y ∧ Below w.heap.size w w' := by
  have B0 := ((((BoxF.new w [.int .i64 (x - 1), .int .i64 y] 3).alloc (.cells #[.int .i64 (x + 1), .int .i64 y] 3 (0, 0))).alloc (.cells #[.int .i64 x, .int .i64 (y - 1)] 3 (0, 0))).alloc (.cells #[.int .i64 x, .int .i64 (y + 1)] 3 (0, 0))).alloc (.cells #[.slice (some ⟨w.heap.size, 0, none⟩) 2 2, .slice (some ⟨w.heap.size + 1, 0, none⟩) 2 2, .slice (some ⟨w.heap.size + 1 + 1, 0, none⟩) 2 2, .slice (some ⟨w.heap.size + 1 + 1 + 1, 0, none⟩) 2 2] 24 (0, 0))
  have B1 := (((BoxF.new (w.alloc (.cells #[.int .i64 (x - 1), .int .i64 y] 3 (0, 0))) [.int .i64 (x + 1), .int .i64 y] 3).alloc (.cells #[.int .i64 x, .int .i64 (y - 1)] 3 (0, 0))).alloc (.cells #[.int .i64 x, .int .i64 (y + 1)] 3 (0, 0))).alloc (.cells #[.slice (some ⟨w.heap.size, 0, none⟩) 2 2, .slice (some ⟨w.heap.size + 1, 0, none⟩) 2 2, .slice (some ⟨w.heap.size + 1 + 1, 0, none⟩) 2 2, .slice (some ⟨w.heap.size + 1 + 1 + 1, 0, none⟩) 2 2] 24 (0, 0))
  have B2 := ((BoxF.new ((w.alloc (.cells #[.int .i64 (x - 1), .int .i64 y] 3 (0, 0))).alloc (.cells #[.int .i64 (x + 1), .int .i64 y] 3 (0, 0))) [.int .i64 x, .int .i64 (y - 1)] 3).alloc (.cells #[.int .i64 x, .int .i64 (y + 1)] 3 (0, 0))).alloc (.cells #[.slice (some ⟨w.heap.size, 0, none⟩) 2 2, .slice (some ⟨w.heap.size + 1, 0, none⟩) 2 2, .slice (some ⟨w.heap.size + 1 + 1, 0, none⟩) 2 2, .slice (some ⟨w.heap.size + 1 + 1 + 1, 0, none⟩) 2 2] 24 (0, 0))
  have B3 := (BoxF.new (((w.alloc (.cells #[.int .i64 (x - 1), .int .i64 y] 3 (0, 0))).alloc (.cells #[.int .i64 (x + 1), .int .i64 y] 3 (0, 0))).alloc (.cells #[.int .i64 x, .int .i64 (y - 1)] 3 (0, 0))) [.int .i64 x, .int .i64 (y + 1)] 3).alloc (.cells #[.slice (some ⟨w.heap.size, 0, none⟩) 2 2, .slice (some ⟨w.heap.size + 1, 0, none⟩) 2 2, .slice (some ⟨w.heap.size + 1 + 1, 0, none⟩) 2 2, .slice (some ⟨w.heap.size + 1 + 1 + 1, 0, none⟩) 2 2] 24 (0, 0))
  have BP := BoxF.new ((((w.alloc (.cells #[.int .i64 (x - 1), .int .i64 y] 3 (0, 0))).alloc (.cells #[.int .i64 (x + 1), .int .i64 y] 3 (0, 0))).alloc (.cells #[.int .i64 x, .int .i64 (y - 1)] 3 (0, 0))).alloc (.cells #[.int .i64 x, .int .i64 (y + 1)] 3 (0, 0))) [.slice (some ⟨w.heap.size, 0, none⟩) 2 2, .slice (some ⟨w.heap.size + 1, 0, none⟩) 2 2, .slice (some ⟨w.heap.size + 1 + 1, 0, none⟩) 2 2, .slice (some ⟨w.heap.size + 1 + 1 + 1, 0, none⟩) 2 2] 24
  simp only [World.size_alloc] at B1 B2 B3 BP
  have HL : Lies4 _ (w.heap.size + 1 + 1 + 1 + 1) x y := fun k hk => by
    have hk4 : k = 0 ∨ k = 1 ∨ k = 2 ∨ k = 3 := by omega
    rcases hk4 with rfl | rfl | rfl | rfl
    · exact ⟨w.heap.size, BP.at 0, B0.at 0, B0.at 1, BP.lt, B0.lt⟩
    · exact ⟨w.heap.size + 1, BP.at 1, B1.at 0, B1.at 1, BP.lt, B1.lt⟩
    · exact ⟨w.heap.size + 1 + 1, BP.at 2, B2.at 0, B2.at 1, BP.lt, B2.lt⟩
    · exact ⟨w.heap.size + 1 + 1 + 1, BP.at 3, B3.at 0, B3.at 1, BP.lt, B3.lt⟩
  have HL := Lib.hid HL
  have HB := Lib.hid ((((((Below.refl _ w).alloc (Nat.le_refl _) (.cells #[.int .i64 (x - 1), .int .i64 y] 3 (0, 0))).alloc (by simp) (.cells #[.int .i64 (x + 1), .int .i64 y] 3 (0, 0))).alloc (by simp; omega) (.cells #[.int .i64 x, .int .i64 (y - 1)] 3 (0, 0))).alloc (by simp; omega) (.cells #[.int .i64 x, .int .i64 (y + 1)] 3 (0, 0))).alloc (by simp; omega) (.cells #[.slice (some ⟨w.heap.size, 0, none⟩) 2 2, .slice (some ⟨w.heap.size + 1, 0, none⟩) 2 2, .slice (some ⟨w.heap.size + 1 + 1, 0, none⟩) 2 2, .slice (some ⟨w.heap.size + 1 + 1 + 1, 0, none⟩) 2 2] 24 (0, 0)))
  clear B0 B1 B2 B3 BP
  go_enter Tryd.func86, Tryd.ntmps86
  go_wp2_with fail
  go_ret
  exact ⟨_, rfl, HL.out, HB.out⟩
/-- The model asks for a cell at any two numbers. -/
theorem l9Has_any (X : List Int) (hg : goodR X = true) (a : Option Addr) (c : Nat) (x y : Int) (w : World) (h : RdI w a 24 X) :
    Calls Tryd.prog 87 #[.agg #[.slice a 24 c], .int .i64 x, .int .i64 y] w fun e w' => e = .returned (.bool (hasZ X x y)) ∧ Below w.heap.size w w' := by
  by_cases hin : (0 ≤ x ∧ x ≤ 19) ∧ (0 ≤ y ∧ y ≤ 23)
  · obtain ⟨u, rfl⟩ : ∃ u : Nat, x = u := ⟨x.toNat, by omega⟩
    obtain ⟨v, rfl⟩ : ∃ v : Nat, y = v := ⟨y.toNat, by omega⟩
    rw [show hasZ X (u : Int) (v : Int) = hasB X u v by unfold hasZ; rw [decide_eq_true hin.1, decide_eq_true hin.2]; simp]
    exact l9Has_in X a c u v (NX X v) w h (by omega) (by omega) (NX_eq hg (by omega)) (NX_lt hg (by omega))
  · rw [show hasZ X x y = false by
      unfold hasZ
      by_cases h1 : 0 ≤ x ∧ x ≤ 19
      · rw [decide_eq_false (p := 0 ≤ y ∧ y ≤ 23) (fun h2 => hin ⟨h1, h2⟩)]; simp
      · rw [decide_eq_false h1]; rfl]
    exact l9Has_out a 24 c x y w hin
end Go.Proofs.YthapidnjioindaaDoor
namespace Go.Proofs.YthapidnjioindaaDoor
open Go.RowKit

/-- The least and the greatest places of the cells. -/
def IsBd (X : List Int) (l t r b : Int) : Prop :=
  (∃ x y : Nat, x < 20 ∧ y < 24 ∧ hasB X x y = true ∧ (x : Int) = l) ∧ (∃ x y : Nat, x < 20 ∧ y < 24 ∧ hasB X x y = true ∧ (y : Int) = t) ∧
  (∃ x y : Nat, x < 20 ∧ y < 24 ∧ hasB X x y = true ∧ (x : Int) = r) ∧ (∃ x y : Nat, x < 20 ∧ y < 24 ∧ hasB X x y = true ∧ (y : Int) = b) ∧
  ∀ x y : Nat, x < 20 → y < 24 → hasB X x y = true → l ≤ x ∧ (x : Int) ≤ r ∧ t ≤ y ∧ (y : Int) ≤ b
theorem IsBd.same {X : List Int} {l t r b l' t' r' b' : Int} (h : IsBd X l t r b) (h' : IsBd X l' t' r' b') : l = l' ∧ t = t' ∧ r = r' ∧ b = b' := by
  obtain ⟨⟨x1, y1, a1, b1, c1, e1⟩, ⟨x2, y2, a2, b2, c2, e2⟩, ⟨x3, y3, a3, b3, c3, e3⟩, ⟨x4, y4, a4, b4, c4, e4⟩, H⟩ := h
  obtain ⟨⟨u1, v1, p1, q1, r1, f1⟩, ⟨u2, v2, p2, q2, r2, f2⟩, ⟨u3, v3, p3, q3, r3, f3⟩, ⟨u4, v4, p4, q4, r4, f4⟩, G⟩ := h'
  have g1 := G x1 y1 a1 b1 c1
  have g2 := G x2 y2 a2 b2 c2
  have g3 := G x3 y3 a3 b3 c3
  have g4 := G x4 y4 a4 b4 c4
  have k1 := H u1 v1 p1 q1 r1
  have k2 := H u2 v2 p2 q2 r2
  have k3 := H u3 v3 p3 q3 r3
  have k4 := H u4 v4 p4 q4 r4
  omega
theorem ctz_bits {C : Nat} (h0 : C ≠ 0) (h : C < 1048576) : C.testBit (Lib.ctz 64 C) = true ∧ ∀ i, i < Lib.ctz 64 C → C.testBit i = false := by
  obtain ⟨m, hm, _⟩ := Lib.ctzFrom_spec 64 C (by omega) (by omega)
  have e : Lib.ctz 64 C = Lib.ctzFrom 64 C := by simp [Lib.ctz, h0]
  rw [e]
  generalize Lib.ctzFrom 64 C = k at hm ⊢
  subst hm
  constructor
  · rw [Nat.testBit_two_pow_mul]; simp
  · intro i hi
    rw [Nat.testBit_two_pow_mul]
    simp; omega
theorem len_bits {C : Nat} (h0 : C ≠ 0) (h : C < 1048576) : 1 ≤ Lib.bitLen C ∧ C.testBit (Lib.bitLen C - 1) = true ∧ ∀ i, Lib.bitLen C ≤ i → C.testBit i = false := by
  obtain ⟨h1, h2, h3⟩ := Lib.bitLenAux_bounds 64 C (by omega) h0
  change 1 ≤ Lib.bitLen C at h1
  change 2 ^ (Lib.bitLen C - 1) ≤ C at h2
  change C < 2 ^ Lib.bitLen C at h3
  refine ⟨h1, ?_, fun i hi => Nat.testBit_lt_two_pow (Nat.lt_of_lt_of_le h3 (Nat.pow_le_pow_right (by omega) hi))⟩
  obtain ⟨k, hk⟩ : ∃ k, Lib.bitLen C = k + 1 := ⟨Lib.bitLen C - 1, by omega⟩
  rw [hk] at h2 h3 ⊢
  rw [Nat.add_sub_cancel] at h2 ⊢
  rw [Nat.testBit_eq_decide_div_mod_eq]
  have : C / 2 ^ k = 1 := by
    apply Nat.div_eq_of_lt_le
    · omega
    · rw [Nat.pow_succ] at h3; omega
  rw [this]; rfl
theorem NX_zero {X : List Int} (hg : goodR X = true) {y : Nat} (hy : y < 24) : NX X y = 0 ↔ ∀ x, x < 20 → hasB X x y = false := by
  constructor
  · intro h x _; show (NX X y).testBit x = false; rw [h]; simp
  · intro h
    apply Nat.eq_of_testBit_eq
    intro x
    rw [Nat.zero_testBit]
    rcases Nat.lt_or_ge x 20 with h1 | h1
    · exact h x h1
    · exact Nat.testBit_lt_two_pow (Nat.lt_of_lt_of_le (show NX X y < 2 ^ 20 from NX_lt hg hy) (Nat.pow_le_pow_right (by omega) h1))
/-- What the program knows behind y rows. -/
def BdInv (X : List Int) (y C T B : Nat) : Prop :=
  C < 1048576 ∧ (∀ x, C.testBit x = true ↔ ∃ j, j < y ∧ (NX X j).testBit x = true) ∧
  (C ≠ 0 → T < y ∧ NX X T ≠ 0 ∧ (∀ j, j < T → NX X j = 0) ∧ B < y ∧ NX X B ≠ 0 ∧ ∀ j, B < j → j < y → NX X j = 0)
theorem BdInv.start (X : List Int) : BdInv X 0 0 0 0 := ⟨by omega, fun x => by simp, fun h => absurd rfl h⟩
theorem BdInv.skip {X : List Int} {y C T B : Nat} (h : BdInv X y C T B) (h0 : NX X y = 0) : BdInv X (y + 1) C T B := by
  obtain ⟨h1, h2, h3⟩ := h
  refine ⟨h1, fun x => ?_, fun hC => ?_⟩
  · rw [h2 x]
    constructor
    · rintro ⟨j, hj, hb⟩; exact ⟨j, by omega, hb⟩
    · rintro ⟨j, hj, hb⟩
      by_cases e : j = y
      · subst e; rw [h0] at hb; simp at hb
      · exact ⟨j, by omega, hb⟩
  · obtain ⟨a, b, c, d, e, f⟩ := h3 hC
    refine ⟨by omega, b, c, by omega, e, fun j hj hj2 => ?_⟩
    by_cases e : j = y
    · subst e; exact h0
    · exact f j hj (by omega)
theorem BdInv.step {X : List Int} (hg : goodR X = true) {y C T B : Nat} (h : BdInv X y C T B) (hy : y < 24) (h0 : NX X y ≠ 0) : BdInv X (y + 1) (C ||| NX X y) (if C = 0 then y else T) y := by
  obtain ⟨h1, h2, h3⟩ := h
  have hn := NX_lt hg hy
  have hlt : C ||| NX X y < 2 ^ 20 := Nat.or_lt_two_pow (by omega) (by omega)
  refine ⟨by omega, fun x => ?_, fun _ => ⟨?_, ?_, ?_, by omega, h0, fun j hj hj2 => by omega⟩⟩
  · rw [Nat.testBit_or, Bool.or_eq_true, h2 x]
    constructor
    · rintro (⟨j, hj, hb⟩ | hb)
      · exact ⟨j, by omega, hb⟩
      · exact ⟨y, by omega, hb⟩
    · rintro ⟨j, hj, hb⟩
      by_cases e : j = y
      · subst e; exact .inr hb
      · exact .inl ⟨j, by omega, hb⟩
  · split
    · omega
    · next hC => have := (h3 hC).1; omega
  · split
    · exact h0
    · next hC => exact (h3 hC).2.1
  · split
    · next hC =>
      intro j hj
      apply Nat.eq_of_testBit_eq
      intro x
      rw [Nat.zero_testBit]
      cases hb : (NX X j).testBit x
      · rfl
      · have := (h2 x).2 ⟨j, hj, hb⟩
        rw [hC] at this; simp at this
    · next hC => exact (h3 hC).2.2.1
theorem bit_ne {N : Nat} (h : N ≠ 0) (hN : N < 1048576) : ∃ x, x < 20 ∧ N.testBit x = true := by
  refine ⟨Lib.ctz 64 N, ?_, (ctz_bits h hN).1⟩
  rcases Nat.lt_or_ge (Lib.ctz 64 N) 20 with h1 | h1
  · exact h1
  · have := (ctz_bits h hN).1
    rw [Nat.testBit_lt_two_pow (Nat.lt_of_lt_of_le (show N < 2 ^ 20 from hN) (Nat.pow_le_pow_right (by omega) h1))] at this
    cases this
theorem BdInv.bounds {X : List Int} (hg : goodR X = true) {C T B : Nat} (h : BdInv X 24 C T B) (hC : C ≠ 0) : IsBd X (Lib.ctz 64 C) T ((Lib.bitLen C : Int) - 1) B ∧ T < 24 ∧ B < 24 := by
  obtain ⟨h1, h2, h3⟩ := h
  obtain ⟨a, b, c, d, e, f⟩ := h3 hC
  obtain ⟨c1, c2⟩ := ctz_bits hC h1
  obtain ⟨l0, l1, l2⟩ := len_bits hC h1
  have small : ∀ x y, y < 24 → (NX X y).testBit x = true → x < 20 := fun x y hy hb => by
    rcases Nat.lt_or_ge x 20 with h | h
    · exact h
    · rw [Nat.testBit_lt_two_pow (Nat.lt_of_lt_of_le (show NX X y < 2 ^ 20 from NX_lt hg hy) (Nat.pow_le_pow_right (by omega) h))] at hb; cases hb
  obtain ⟨j1, hj1, hb1⟩ := (h2 _).1 c1
  obtain ⟨j2, hj2, hb2⟩ := (h2 _).1 l1
  obtain ⟨x3, hx3, hb3⟩ := bit_ne b (NX_lt hg a)
  obtain ⟨x4, hx4, hb4⟩ := bit_ne e (NX_lt hg d)
  refine ⟨⟨⟨_, j1, small _ _ hj1 hb1, hj1, hb1, rfl⟩, ⟨x3, T, hx3, a, hb3, rfl⟩, ⟨_, j2, small _ _ hj2 hb2, hj2, hb2, by omega⟩, ⟨x4, B, hx4, d, hb4, rfl⟩, fun x y hx hy hb => ?_⟩, a, d⟩
  have hCx := (h2 x).2 ⟨y, hy, hb⟩
  refine ⟨?_, ?_, ?_, ?_⟩
  · rcases Nat.lt_or_ge x (Lib.ctz 64 C) with h | h
    · rw [c2 x h] at hCx; cases hCx
    · omega
  · rcases Nat.lt_or_ge x (Lib.bitLen C) with h | h
    · omega
    · rw [l2 x h] at hCx; cases hCx
  · rcases Nat.lt_or_ge y T with h | h
    · have := c y h
      change (NX X y).testBit x = true at hb
      rw [this] at hb; simp at hb
    · omega
  · rcases Nat.lt_or_ge B y with h | h
    · have := f y h hy
      change (NX X y).testBit x = true at hb
      rw [this] at hb; simp at hb
    · omega
theorem BdInv.none {X : List Int} {T B : Nat} (h : BdInv X 24 0 T B) : ∀ x y, x < 20 → y < 24 → hasB X x y = false := fun x y _ hy => by
  cases hb : hasB X x y
  · rfl
  · have := (h.2.1 x).2 ⟨y, hy, hb⟩
    simp at this
theorem BdInv.exists {X : List Int} (hg : goodR X = true) : ∀ y, y ≤ 24 → ∃ C T B, BdInv X y C T B
  | 0, _ => ⟨0, 0, 0, BdInv.start X⟩
  | y + 1, h => by
    obtain ⟨C, T, B, hi⟩ := BdInv.exists hg y (by omega)
    by_cases h0 : NX X y = 0
    · exact ⟨C, T, B, hi.skip h0⟩
    · exact ⟨_, _, _, hi.step hg (by omega) h0⟩
/-- A valid region is empty or has bounds. -/
theorem bounds_or {X : List Int} (hg : goodR X = true) : (∀ x y, x < 20 → y < 24 → hasB X x y = false) ∨ ∃ l t r b, IsBd X l t r b := by
  obtain ⟨C, T, B, h⟩ := BdInv.exists hg 24 (Nat.le_refl _)
  by_cases hC : C = 0
  · subst hC; exact .inl h.none
  · exact .inr ⟨_, _, _, _, (h.bounds hg hC).1⟩
/-- An answer that is a slice of these numbers and a truth value. -/
def AnsI (W : World) (Y : List Int) (n : Nat) (ok : Bool) (e : Ending) (w' : World) : Prop := ∃ (a : Option Addr) (c : Nat), e = .returned (.tuple #[.slice a n c, .bool ok]) ∧ OwnI w' W.heap.size a n c Y ∧ Below W.heap.size W w'
theorem ownI_nil' (W : World) (B : Nat) : OwnI W B none 0 0 [] := ⟨by simp, .inl ⟨rfl, rfl⟩⟩
/-- The library's table of trailing zeros. -/
def TzT (w : World) : Prop := TabAt 1 Lib.deBruijn64tab w
theorem TzT.below {w w' : World} (h : TzT w) (hb : Below w.heap.size w w') : TzT w' := fun j hj => by
  have h1 := h j hj
  exact (hb.cell (p := ⟨1, j, none⟩) (World.block_lt_of_cell? w _ h1)).trans h1
theorem tzH {w : World} (h : laidMetH Tryd.prog [("math/bits.deBruijn32tab", Rows.laid_math_bits_deBruijn32tab), ("math/bits.deBruijn64tab", Rows.laid_math_bits_deBruijn64tab)] w) : TzT w := by
  have h1 := h.filter (fun x => x.1 != "math/bits.deBruijn32tab")
  rw [show ([("math/bits.deBruijn32tab", Rows.laid_math_bits_deBruijn32tab), ("math/bits.deBruijn64tab", Rows.laid_math_bits_deBruijn64tab)] : List (String × DataW Unit)).filter (fun x => x.1 != "math/bits.deBruijn32tab") = [("math/bits.deBruijn64tab", Rows.laid_math_bits_deBruijn64tab)] from by kernel_rfl] at h1
  rw [MakeChecks.laidMetH_plain _ _ _ (by kernel_rfl)] at h1
  have hg : Tryd.prog.globalNamed "math/bits.deBruijn64tab" = some 1 := by kernel_rfl
  have ht : (Tryd.prog.globals[1]?).map (·.type) = some 123 := by kernel_rfl
  have h2 := Lib.tabIs_of_head (k := .u8) (zs := Lib.deBruijn64tab.map fun z => ((z : Nat) : Int)) hg ht Tryd.underlying123 Tryd.underlying5 (by kernel_rfl) (by kernel_rfl) (show laidMet _ (("math/bits.deBruijn64tab", Lib.tabData .u8 (Lib.deBruijn64tab.map fun z => ((z : Nat) : Int))) :: []) w from h1)
  intro j hj
  have h3 := h2.cell hg j (by simpa using hj)
  rw [h3]
  simp [List.getD, hj]
theorem bdLeast_any (a b : Int) (w : World) :
    Calls Tryd.prog 88 #[.int .i64 a, .int .i64 b] w fun e w' => e = .returned (.int .i64 (if b < a then b else a)) ∧ w = w' := by
  by_cases h : b < a
  · rw [if_pos h]
    have e1 : decide (b < a) = true := decide_eq_true h
    have e2 : decide (a < b) = false := decide_eq_false (by omega)
    go_enter Tryd.func88, Tryd.ntmps88
    go_wp2_with fail
    go_ret
    exact ⟨rfl, rfl⟩
  · rw [if_neg h]
    by_cases h2 : a < b
    · have e1 : decide (b < a) = false := decide_eq_false h
      have e2 : decide (a < b) = true := decide_eq_true h2
      go_enter Tryd.func88, Tryd.ntmps88
      go_wp2_with fail
      go_ret
      exact ⟨rfl, rfl⟩
    · obtain rfl : a = b := by omega
      have e1 : decide (a < a) = false := decide_eq_false h
      go_enter Tryd.func88, Tryd.ntmps88
      go_wp2_with fail
      go_ret
      exact ⟨rfl, rfl⟩
theorem cast_zero {N : Nat} (h : N = 0) : ((N : Int) == 0) = true := by subst h; rfl
theorem cast_ne {N : Nat} (h : N ≠ 0) : ((N : Int) == 0) = false := by rw [beq_eq_false_iff_ne]; omega
/-- What BoundsOf answers. -/
def BdAns (X Y : List Int) (m : Nat) (ok : Bool) : Prop :=
  (ok = false ∧ Y = [] ∧ m = 0 ∧ (goodR X = true → ∀ x y, x < 20 → y < 24 → hasB X x y = false)) ∨ (ok = true ∧ goodR X = true ∧ m = 4 ∧ ∃ l t r b, Y = [l, t, r, b] ∧ IsBd X l t r b)
theorem bdAns (X : List Int) : ∃ Y m ok, BdAns X Y m ok := by
  cases hg : goodR X
  · exact ⟨[], 0, false, .inl ⟨rfl, rfl, rfl, fun h => by rw [hg] at h; cases h⟩⟩
  · rcases bounds_or hg with h | ⟨l, t, r, b, h⟩
    · exact ⟨[], 0, false, .inl ⟨rfl, rfl, rfl, fun _ => h⟩⟩
    · exact ⟨[l, t, r, b], 4, true, .inr ⟨rfl, hg, rfl, l, t, r, b, rfl, h⟩⟩
set_option maxRecDepth 100000 in
set_option maxHeartbeats 4000000 in
theorem bounds_impl (X Y : List Int) (m : Nat) (ok : Bool) (hY : BdAns X Y m ok) (n : Nat) (a : Option Addr) (c : Nat) (w : World) (h : RdI w a n X) (hwf : WfI X) (hn : n ≤ 1048577) (hT : TzT w) :
    Calls Tryd.prog 44 #[.agg #[.slice a n c]] w (AnsI w Y m ok) := by
  have XA := BoxF.new w [.slice a n c] 26
  have hb := (Below.refl _ w).alloc (Nat.le_refl _) (.cells #[.slice a n c] 26 (0, 0))
  have c1 := XA.one.1
  have HR := Lib.hid h
  have CV := Lib.hid (valid_impl X n a c _ (h.below hb) hwf hn)
  have HX := Lib.hid XA
  have HB := Lib.hid hb
  have HT := Lib.hid hT
  clear h hb XA hwf hT
  cases hg : goodR X
  · rw [hg] at CV
    rcases hY with ⟨rfl, rfl, rfl, _⟩ | ⟨_, h, _⟩
    · clear hg
      go_enter Tryd.func44, Tryd.ntmps44
      go_wp2_with fail
      refine CV.out.mono ?_
      rintro e w1 ⟨rfl, hb1⟩
      have HB1 := Lib.hid (HB.out.trans (hb1.mono HB.out.size))
      clear hb1 HX c1
      go_wp2_with fail
      go_ret2
      exact ⟨none, 0, rfl, ownI_nil' _ _, HB1.out⟩
    · rw [hg] at h; cases h
  · rw [hg] at CV
    have h24 : n = 24 := by rw [← HR.out.1]; exact goodR_len hg
    subst h24
    have HG := Lib.hid hg
    have HYY := Lib.hid hY
    clear hg hY
    go_enter Tryd.func44, Tryd.ntmps44
    go_wp2_with fail
    refine CV.out.mono ?_
    rintro e w1 ⟨rfl, hb1⟩
    have HX1 := Lib.hid (HX.out.below hb1)
    have HB1 := Lib.hid (HB.out.trans (hb1.mono HB.out.size))
    have c1 := HX1.out.one.1
    clear hb1 HX HB CV
    go_wp2_with fail
    clear c1
    go_loopw [4, 5, 6, 17] (fun vc vt vb i wr => ∃ y C T B : Nat, y ≤ 24 ∧ i = .int .i64 (y : Int) ∧ vc = .int .i64 (C : Int) ∧ vt = .int .i64 (T : Int) ∧ vb = .int .i64 (B : Int) ∧ Hid (BdInv X y C T B) ∧ wr = w1) (fun _ _ _ i _ => 24 - (intOf i).toNat)
    case atStart => exact ⟨0, 0, 0, 0, by omega, rfl, rfl, rfl, rfl, Lib.hid (BdInv.start X), rfl⟩
    case round =>
      obtain ⟨y, C, T, B, hy, rfl, rfl, rfl, rfl, HI, rfl⟩ := hrel
      by_cases hlt : y < 24
      · have ely : decide ((y : Int) < 24) = true := decide_eq_true (by omega)
        obtain ⟨b3, o3, rfl, _, hc3⟩ := (HR.out.below HB1.out).2 (by omega)
        have x2 := hc3 y hlt
        rw [NX_eq HG.out hlt] at x2
        have n2 := NX_lt HG.out hlt
        by_cases h0 : NX X y = 0
        · have e0 := cast_zero h0
          have HI2 := Lib.hid (HI.out.skip h0)
          generalize NX X y = N at *
          clear hc3 h0
          go_wp2_with fail
          go_roundw
          case rel => exact ⟨y + 1, C, T, B, by omega, by go_num, rfl, rfl, rfl, HI2, by first | rfl | trivial⟩
          case measure => simp [intOf]; omega
        · have e0 := cast_ne h0
          have HI2 := Lib.hid (HI.out.step HG.out hlt h0)
          have hor := i64_or_nat C (NX X y) (by have := HI.out.1; omega) (by omega)
          generalize NX X y = N at *
          by_cases hC : C = 0
          · have e1 := cast_zero hC
            rw [if_pos hC] at HI2
            clear hc3 h0
            have HC := Lib.hid hC
            clear hC
            go_wp2_with fail
            go_roundw
            case rel => exact ⟨y + 1, C ||| N, y, y, by omega, by go_num, rfl, rfl, rfl, HI2, by first | rfl | trivial⟩
            case measure => simp [intOf]; omega
          · have e1 := cast_ne hC
            rw [if_neg hC] at HI2
            clear hc3 h0 hC
            go_wp2_with fail
            go_roundw
            case rel => exact ⟨y + 1, C ||| N, T, y, by omega, by go_num, rfl, rfl, rfl, HI2, by first | rfl | trivial⟩
            case measure => simp [intOf]; omega
      · have ely : decide ((y : Int) < 24) = false := decide_eq_false (by omega)
        obtain rfl : y = 24 := by omega
        by_cases hC : C = 0
        · have e1 := cast_zero hC
          subst hC
          have hnone := HI.out.none
          have HA := HYY.out
          rcases HA with ⟨rfl, rfl, rfl, _⟩ | ⟨_, _, _, l, t, r, b, _, ⟨⟨x, y, hx, hy, hxy, _⟩, _⟩⟩
          · clear hnone
            go_wp2_with fail
            go_ret2
            exact ⟨none, 0, rfl, ownI_nil' _ _, HB1.out⟩
          · rw [hnone x y hx hy] at hxy; cases hxy
        · have e1 := cast_ne hC
          obtain ⟨hbd, hT4, hB4⟩ := HI.out.bounds HG.out hC
          have hC2 := HI.out.1
          obtain ⟨l0, l1, l2⟩ := len_bits hC hC2
          have CT := Lib.hid (Tryd.bits_TrailingZeros C (by omega) wr (fun _ => HT.out.below HB1.out))
          have CL := Lib.hid (fun W => Tryd.bits_Len (C : Int) W (by omega) (by omega))
          simp only [Int.toNat_natCast] at CL
          have HA := HYY.out
          rcases HA with ⟨_, _, _, hno⟩ | ⟨rfl, _, rfl, l, t, r, b, rfl, hbd2⟩
          · obtain ⟨⟨x, y, hx, hy, hxy, _⟩, _⟩ := hbd
            rw [hno HG.out x y hx hy] at hxy; cases hxy
          · have he := hbd2.same hbd
            have hr3 : r = (Lib.bitLen C : Int) - 1 := he.2.2.1
            have hbl : Lib.bitLen C ≤ 64 := by
              rcases Nat.lt_or_ge 64 (Lib.bitLen C) with h | h
              · have hc := l1
                rw [Nat.testBit_lt_two_pow (Nat.lt_of_lt_of_le (show C < 2 ^ 20 from hC2) (Nat.pow_le_pow_right (by omega) (by omega)))] at hc; cases hc
              · exact h
            have HE := Lib.hid he
            clear he hbd hbd2 l1 l2 hr3
            generalize Lib.ctz 64 C = ZC at *
            generalize Lib.bitLen C = BC at *
            have hown0 := World.ownsRow_lit (e := 3) (size := 1) wr #[.int .i64 (ZC : Int), .int .i64 (T : Int), .int .i64 ((BC : Int) - 1), .int .i64 (B : Int)] 4 (Nat.le_refl _) (by unfold maxLen; omega) rfl
            have HO0 := Lib.hid hown0
            clear hown0 hC
            go_wp2_with fail
            refine CT.out.mono ?_
            rintro e w2 ⟨rfl, rfl⟩
            go_wp2_with fail
            refine (CL.out _).mono ?_
            rintro e w2 ⟨rfl, rfl⟩
            obtain ⟨q1, q2, q3, q4⟩ := HE.out
            have HOw := Lib.hid (OwnI.low (B' := w.heap.size) (show OwnI (w2.alloc (.cells #[.int .i64 (ZC : Int), .int .i64 (T : Int), .int .i64 ((BC : Int) - 1), .int .i64 (B : Int)] 3 (0, 0))) w2.heap.size (some ⟨w2.heap.size, 0, none⟩) 4 4 [l, t, r, b] by rw [q1, q2, q3, q4]; exact HO0.out) (by have := HB1.out.size; omega))
            have HBw := Lib.hid (HB1.out.alloc HB1.out.size (.cells #[.int .i64 (ZC : Int), .int .i64 (T : Int), .int .i64 ((BC : Int) - 1), .int .i64 (B : Int)] 3 (0, 0)))
            clear q1 q2 q3 q4
            go_wp2_with fail
            go_ret2
            exact ⟨_, _, rfl, HOw.out, HBw.out⟩
theorem cellsK_has {X : List Int} {k i : Nat} (hi : i < (cellsK X k).length) : ∃ z : Nat, (cellsK X k).getD i 0 = (z : Int) ∧ z < k ∧ hasB X (z % 20) (z / 20) = true := by
  have hm : (cellsK X k)[i] ∈ cellsK X k := List.getElem_mem hi
  unfold cellsK at hm
  obtain ⟨z, hz, e⟩ := List.mem_map.1 hm
  have hf := List.mem_filter.1 hz
  have := hf.1
  rw [List.mem_range] at this
  have h2 : (cellsK X k).getD i 0 = (cellsK X k)[i] := by simp [List.getD, List.getElem?_eq_getElem hi]
  exact ⟨z, h2.trans e.symm, this, hf.2⟩
theorem cellsK_all {X : List Int} {x y : Nat} (hx : x < 20) (hy : y < 24) (hb : hasB X x y = true) : ∃ i, i < (cellsK X 480).length ∧ (cellsK X 480).getD i 0 = ((20 * y + x : Nat) : Int) := by
  have hm : ((20 * y + x : Nat) : Int) ∈ cellsK X 480 := by
    unfold cellsK
    refine List.mem_map.2 ⟨20 * y + x, List.mem_filter.2 ⟨List.mem_range.2 (by omega), ?_⟩, rfl⟩
    rw [show (20 * y + x) % 20 = x by omega, show (20 * y + x) / 20 = y by omega]
    exact hb
  obtain ⟨i, hi, e⟩ := List.mem_iff_getElem.1 hm
  exact ⟨i, hi, by simp [List.getD, List.getElem?_eq_getElem hi, e]⟩
theorem rdI_grown {w w' : World} {b o n g : Nat} {X : List Int} (h : RdI w (some ⟨b, o, none⟩) n X) (hg : w.grownBy w' (some g)) (hne : b ≠ g) : RdI w' (some ⟨b, o, none⟩) n X :=
  ⟨h.1, fun hn => by
    obtain ⟨b', o', e, hlt, hc⟩ := h.2 hn
    cases e
    refine ⟨b, o, rfl, Nat.lt_of_lt_of_le hlt hg.size, fun k hk => ?_⟩
    rw [← hc k hk]
    have := hg.block b hlt (by intro e; cases e; exact hne rfl)
    simp only [World.cell?, this]⟩
/-- What the model knows behind j cells. -/
def MnInv (Z : List Int) (j : Nat) (o0 o1 o2 o3 : Int) : Prop :=
  (∀ i, i < j → o0 ≤ Z.getD i 0 % 20 ∧ Z.getD i 0 % 20 ≤ o2 ∧ o1 ≤ Z.getD i 0 / 20 ∧ Z.getD i 0 / 20 ≤ o3) ∧
  (o0 = 20 ∨ ∃ i, i < j ∧ Z.getD i 0 % 20 = o0) ∧ (o1 = 24 ∨ ∃ i, i < j ∧ Z.getD i 0 / 20 = o1) ∧ (o2 = -1 ∨ ∃ i, i < j ∧ Z.getD i 0 % 20 = o2) ∧ (o3 = -1 ∨ ∃ i, i < j ∧ Z.getD i 0 / 20 = o3)
theorem MnInv.start (Z : List Int) : MnInv Z 0 20 24 (-1) (-1) := ⟨fun i hi => by omega, .inl rfl, .inl rfl, .inl rfl, .inl rfl⟩
theorem MnInv.step {Z : List Int} {j : Nat} {o0 o1 o2 o3 : Int} {z : Nat} (h : MnInv Z j o0 o1 o2 o3) (hz : Z.getD j 0 = (z : Int)) :
    MnInv Z (j + 1) (if (z : Int) % 20 < o0 then (z : Int) % 20 else o0) (if (z : Int) / 20 < o1 then (z : Int) / 20 else o1) (if o2 < (z : Int) % 20 then (z : Int) % 20 else o2) (if o3 < (z : Int) / 20 then (z : Int) / 20 else o3) := by
  obtain ⟨h0, h1, h2, h3, h4⟩ := h
  refine ⟨fun i hi => ?_, ?_, ?_, ?_, ?_⟩
  · by_cases e : i = j
    · subst e
      rw [hz]
      refine ⟨?_, ?_, ?_, ?_⟩ <;> split <;> omega
    · obtain ⟨a, b, c, d⟩ := h0 i (by omega)
      refine ⟨?_, ?_, ?_, ?_⟩ <;> split <;> omega
  · split
    · exact .inr ⟨j, by omega, by rw [hz]⟩
    · rcases h1 with h | ⟨i, hi, e⟩
      · exact .inl h
      · exact .inr ⟨i, by omega, e⟩
  · split
    · exact .inr ⟨j, by omega, by rw [hz]⟩
    · rcases h2 with h | ⟨i, hi, e⟩
      · exact .inl h
      · exact .inr ⟨i, by omega, e⟩
  · split
    · exact .inr ⟨j, by omega, by rw [hz]⟩
    · rcases h3 with h | ⟨i, hi, e⟩
      · exact .inl h
      · exact .inr ⟨i, by omega, e⟩
  · split
    · exact .inr ⟨j, by omega, by rw [hz]⟩
    · rcases h4 with h | ⟨i, hi, e⟩
      · exact .inl h
      · exact .inr ⟨i, by omega, e⟩
/-- The model's numbers are the bounds. -/
theorem MnInv.bounds {X Z : List Int} {L : Nat} {o0 o1 o2 o3 : Int} (h : MnInv Z L o0 o1 o2 o3) (hL : 0 < L) (hM : ∀ i, i < L → ∃ z : Nat, Z.getD i 0 = (z : Int) ∧ z < 480 ∧ hasB X (z % 20) (z / 20) = true) (hA : ∀ x y, x < 20 → y < 24 → hasB X x y = true → ∃ i, i < L ∧ Z.getD i 0 = ((20 * y + x : Nat) : Int)) : IsBd X o0 o1 o2 o3 := by
  obtain ⟨h0, h1, h2, h3, h4⟩ := h
  obtain ⟨z0, e0, l0, _⟩ := hM 0 hL
  obtain ⟨a, b, c, d⟩ := h0 0 hL
  rw [e0] at a b c d
  have get : ∀ i, i < L → ∃ x y : Nat, x < 20 ∧ y < 24 ∧ hasB X x y = true ∧ (x : Int) = Z.getD i 0 % 20 ∧ (y : Int) = Z.getD i 0 / 20 := fun i hi => by
    obtain ⟨z, e, l, hb⟩ := hM i hi
    exact ⟨z % 20, z / 20, by omega, by omega, hb, by rw [e]; omega, by rw [e]; omega⟩
  refine ⟨?_, ?_, ?_, ?_, fun x y hx hy hb => ?_⟩
  · rcases h1 with h | ⟨i, hi, e⟩
    · omega
    · obtain ⟨x, y, hx, hy, hb, ex, _⟩ := get i hi; exact ⟨x, y, hx, hy, hb, by omega⟩
  · rcases h2 with h | ⟨i, hi, e⟩
    · omega
    · obtain ⟨x, y, hx, hy, hb, _, ey⟩ := get i hi; exact ⟨x, y, hx, hy, hb, by omega⟩
  · rcases h3 with h | ⟨i, hi, e⟩
    · omega
    · obtain ⟨x, y, hx, hy, hb, ex, _⟩ := get i hi; exact ⟨x, y, hx, hy, hb, by omega⟩
  · rcases h4 with h | ⟨i, hi, e⟩
    · omega
    · obtain ⟨x, y, hx, hy, hb, _, ey⟩ := get i hi; exact ⟨x, y, hx, hy, hb, by omega⟩
  · obtain ⟨i, hi, e⟩ := hA x y hx hy hb
    obtain ⟨a', b', c', d'⟩ := h0 i hi
    rw [e] at a' b' c' d'
    omega
set_option maxRecDepth 100000 in
set_option maxHeartbeats 8000000 in
theorem bounds_spec (X Y : List Int) (m : Nat) (ok : Bool) (hY : BdAns X Y m ok) (n : Nat) (a : Option Addr) (c : Nat) (w : World) (h : RdI w a n X) (hn : n ≤ 1048577) :
    Calls Tryd.prog 47 #[.agg #[.slice a n c]] w (AnsI w Y m ok) := by
  have XA := BoxF.new w [.slice a n c] 26
  have hb := (Below.refl _ w).alloc (Nat.le_refl _) (.cells #[.slice a n c] 26 (0, 0))
  have c1 := XA.one.1
  have HR := Lib.hid h
  have CV := Lib.hid (good_spec X n a c _ (h.below hb) hn)
  have HX := Lib.hid XA
  have HB := Lib.hid hb
  clear h hb XA
  cases hg : goodR X
  · rw [hg] at CV
    rcases hY with ⟨rfl, rfl, rfl, _⟩ | ⟨_, h, _⟩
    · clear hg
      go_enter Tryd.func47, Tryd.ntmps47
      go_wp2_with fail
      refine CV.out.mono ?_
      rintro e w1 ⟨rfl, hb1⟩
      have HB1 := Lib.hid (HB.out.trans (hb1.mono HB.out.size))
      have hown0 := World.ownsRow_lit (e := 3) (size := 1) w1 #[] 0 (Nat.le_refl _) (by unfold maxLen; omega) rfl
      have HO0 := Lib.hid (OwnI.low (B' := w.heap.size) (show OwnI _ w1.heap.size _ 0 0 [] from hown0) HB1.out.size)
      have HBw := Lib.hid (HB1.out.alloc HB1.out.size (.cells #[] 3 (0, 0)))
      clear hb1 HX c1 hown0
      go_wp2_with fail
      go_ret2
      exact ⟨_, _, rfl, HO0.out, HBw.out⟩
    · rw [hg] at h; cases h
  · rw [hg] at CV
    have h24 : n = 24 := by rw [← HR.out.1]; exact goodR_len hg
    subst h24
    have HC := Lib.hid (fun W (h : RdI W a 24 X) => cells_spec X a c W h hg)
    have hl := cellsK_len X 480
    have hmem : ∀ i, i < (cellsK X 480).length → ∃ z : Nat, (cellsK X 480).getD i 0 = (z : Int) ∧ z < 480 ∧ hasB X (z % 20) (z / 20) = true := fun i hi => cellsK_has hi
    have hall : ∀ x y, x < 20 → y < 24 → hasB X x y = true → ∃ i, i < (cellsK X 480).length ∧ (cellsK X 480).getD i 0 = ((20 * y + x : Nat) : Int) := fun x y hx hy hb => cellsK_all hx hy hb
    generalize hYY : cellsK X 480 = Z at *
    obtain ⟨L, hL⟩ : ∃ L, Z.length = L := ⟨_, rfl⟩
    rw [hL] at HC hl hmem hall
    have HM := Lib.hid hmem
    have HA := Lib.hid hall
    have HG := Lib.hid hg
    have HYA := Lib.hid hY
    clear hg hYY hL hmem hall hY
    go_enter Tryd.func47, Tryd.ntmps47
    go_wp2_with fail
    refine CV.out.mono ?_
    rintro e w1 ⟨rfl, hb1⟩
    have HX1 := Lib.hid (HX.out.below hb1)
    have HB1 := Lib.hid (HB.out.trans (hb1.mono HB.out.size))
    have c1 := HX1.out.one.1
    clear hb1 HX HB CV
    go_wp2_with fail
    refine (HC.out _ (HR.out.below HB1.out)).mono ?_
    rintro e w2 ⟨p, k, rfl, _, hb2⟩
    have HX2 := Lib.hid (HX1.out.below hb2)
    have HB2 := Lib.hid (HB1.out.trans (hb2.mono HB1.out.size))
    have c1 := HX2.out.one.1
    clear hb2 HX1 HB1
    by_cases h0 : L = 0
    · have e0 := cast_zero h0
      rcases HYA.out with ⟨rfl, rfl, rfl, _⟩ | ⟨_, _, _, l, t, r, b, _, ⟨⟨x, y, hx, hy, hxy, _⟩, _⟩⟩
      · have hown0 := World.ownsRow_lit (e := 3) (size := 1) w2 #[] 0 (Nat.le_refl _) (by unfold maxLen; omega) rfl
        have HO0 := Lib.hid (OwnI.low (B' := w.heap.size) (show OwnI _ w2.heap.size _ 0 0 [] from hown0) HB2.out.size)
        have HBw := Lib.hid (HB2.out.alloc HB2.out.size (.cells #[] 3 (0, 0)))
        clear c1 hown0 h0 HX2
        go_wp2_with fail
        go_ret2
        exact ⟨_, _, rfl, HO0.out, HBw.out⟩
      · obtain ⟨i, hi, _⟩ := HA.out x y hx hy hxy
        omega
    · have e0 := cast_ne h0
      rcases HYA.out with ⟨_, _, _, hno⟩ | ⟨rfl, _, rfl, l, t, r, b, rfl, hbd⟩
      · obtain ⟨z, _, hz, hzb⟩ := HM.out 0 (by omega)
        rw [hno HG.out (z % 20) (z / 20) (by omega) (by omega)] at hzb; cases hzb
      · have HBD := Lib.hid hbd
        have h0L : 0 < L := by omega
        clear hbd h0
        go_wp2_with fail
        refine (HC.out _ (HR.out.below HB2.out)).mono ?_
        rintro e w3 ⟨p2, k2, rfl, ho, hb3⟩
        have HB3 := Lib.hid (HB2.out.trans (hb3.mono HB2.out.size))
        have HO3 := Lib.hid (ho.rd.below ((Below.refl _ w3).alloc (Nat.le_refl _) (.cells #[.int .i64 20, .int .i64 24, .int .i64 (-1), .int .i64 (-1)] 3 (0, 0))))
        have HB4 := Lib.hid (HB3.out.alloc HB3.out.size (.cells #[.int .i64 20, .int .i64 24, .int .i64 (-1), .int .i64 (-1)] 3 (0, 0)))
        have hlt := fun q hq => World.ownsRow.lt ho q hq
        have hown0 := World.ownsRow_lit (e := 3) (size := 1) w3 #[.int .i64 20, .int .i64 24, .int .i64 (-1), .int .i64 (-1)] 4 (Nat.le_refl _) (by unfold maxLen; omega) rfl
        have HW3 := Lib.hid (show OwnI (w3.alloc (.cells #[.int .i64 20, .int .i64 24, .int .i64 (-1), .int .i64 (-1)] 3 (0, 0))) w3.heap.size (some ⟨w3.heap.size, 0, none⟩) 4 4 [20, 24, -1, -1] from hown0)
        have hz3 := HB3.out.size
        have hsh := ho.rd.2 h0L
        obtain ⟨b3, o3, rfl, hb3l, _⟩ := hsh
        clear ho hb3 HB2 HB3 HX2 c1 hown0 hlt
        go_wp2_with fail
        go_loopw [6] (fun i wr => ∃ j : Nat, ∃ o0 o1 o2 o3' : Int, j ≤ L ∧ i = .int .i64 (j : Int) ∧ Hid (OwnI wr w3.heap.size (some ⟨w3.heap.size, 0, none⟩) 4 4 [o0, o1, o2, o3']) ∧ Hid (RdI wr (some ⟨b3, o3, none⟩) L Z) ∧ Hid (Below w.heap.size w wr) ∧ Hid (MnInv Z j o0 o1 o2 o3')) (fun i _ => L - (intOf i).toNat)
        case atStart => exact ⟨0, 20, 24, -1, -1, by omega, rfl, HW3, HO3, HB4, Lib.hid (MnInv.start Z)⟩
        case round =>
          clear HW3 HO3 HB4
          obtain ⟨j, o0, o1, o2, o3', hj, rfl, HW, HO, HB, HI⟩ := hrel
          by_cases hlt : j < L
          · have elj : decide ((j : Int) < (L : Int)) = true := decide_eq_true (by omega)
            obtain ⟨z, hz, hz2, hzb⟩ := HM.out j hlt
            obtain ⟨_, _, e9, hb9, hc3⟩ := HO.out.2 h0L
            cases e9
            have x2 := hc3 j hlt
            rw [hz] at x2
            have CM0 := Lib.hid (fun W => bdLeast_any o0 ((z : Int) % 20) W)
            have CM1 := Lib.hid (fun W => bdLeast_any o1 ((z : Int) / 20) W)
            have CM2 := Lib.hid (fun W => l1Most_any o2 ((z : Int) % 20) W)
            have CM3 := Lib.hid (fun W => l1Most_any o3' ((z : Int) / 20) W)
            have HI2 := Lib.hid (HI.out.step hz)
            generalize (if (z : Int) % 20 < o0 then (z : Int) % 20 else o0) = v0 at *
            generalize (if (z : Int) / 20 < o1 then (z : Int) / 20 else o1) = v1 at *
            generalize (if o2 < (z : Int) % 20 then (z : Int) % 20 else o2) = v2 at *
            generalize (if o3' < (z : Int) / 20 then (z : Int) / 20 else o3') = v3 at *
            clear hc3
            go_wp2_with fail
            go_region
            have HWd : Hid (OwnI wr.drew w3.heap.size (some ⟨w3.heap.size, 0, none⟩) 4 4 [o0, o1, o2, o3']) := Lib.hid (HW.out.drewN 1)
            have HOd : Hid (RdI wr.drew (some ⟨b3, o3, none⟩) L Z) := Lib.hid (HO.out.drewN 1)
            have HBd : Hid (Below w.heap.size w wr.drew) := Lib.hid (below_drewN' HB.out 1)
            have hb9 : b3 < wr.drew.heap.size := hb9
            clear HW HO HB x2
            generalize wr.drew = Wd at *
            have W0 := HWd.out
            have k0 := W0.cellAt 0 (by omega)
            have f0 := W0.frozenAt 0
            have S0 := W0.stored 0 (.int .i64 v0)
            have kk0 := S0.1
            have S1 := World.ownsRow.stored kk0 1 (.int .i64 v1)
            have kk1 := S1.1
            have S2 := World.ownsRow.stored kk1 2 (.int .i64 v2)
            have kk2 := S2.1
            have S3 := World.ownsRow.stored kk2 3 (.int .i64 v3)
            have d0 := World.ownsRow.cellAt kk0 1 (by omega)
            have f1 := World.ownsRow.frozenAt kk0 1
            have d1 := World.ownsRow.cellAt kk1 2 (by omega)
            have f2 := World.ownsRow.frozenAt kk1 2
            have d2 := World.ownsRow.cellAt kk2 3 (by omega)
            have f3 := World.ownsRow.frozenAt kk2 3
            have S3a := S3.1
            simp only [List.map_cons, List.map_nil, List.set_cons_zero, List.set_cons_succ, List.getElem?_cons_zero, List.getElem?_cons_succ] at k0 d0 d1 d2 S3a
            have HG4 := S0.2.trans (S1.2.trans (S2.2.trans S3.2))
            have HW4 := Lib.hid (show OwnI _ w3.heap.size (some ⟨w3.heap.size, 0, none⟩) 4 4 [v0, v1, v2, v3] from S3a)
            have HB4 := Lib.hid (HBd.out.grown HG4 HBd.out.size (fun q hq => by cases hq; omega))
            have HO4 := Lib.hid (rdI_grown HOd.out HG4 (by intro e; cases e; omega))
            clear kk0 kk1 kk2 S0 S1 S2 S3 S3a HG4 W0 HWd HOd HBd
            go_wp2_with fail
            refine (CM0.out _).mono ?_
            rintro e w5 ⟨rfl, rfl⟩
            go_wp2_with fail
            refine (CM1.out _).mono ?_
            rintro e w5 ⟨rfl, rfl⟩
            go_wp2_with fail
            refine (CM2.out _).mono ?_
            rintro e w5 ⟨rfl, rfl⟩
            go_wp2_with fail
            refine (CM3.out _).mono ?_
            rintro e w5 ⟨rfl, rfl⟩
            clear k0 f0 d0 f1 d1 f2
            go_wp2_with fail
            go_roundw
            case rel => exact ⟨j + 1, v0, v1, v2, v3, by omega, by go_num, HW4, HO4, HB4, HI2⟩
            case measure => simp [intOf]; omega
          · have elj : decide ((j : Int) < (L : Int)) = false := decide_eq_false (by omega)
            obtain rfl : j = L := by omega
            have hs := HBD.out.same (HI.out.bounds h0L HM.out HA.out)
            have HOw := Lib.hid (OwnI.low (B' := w.heap.size) (show OwnI wr w3.heap.size (some ⟨w3.heap.size, 0, none⟩) 4 4 [l, t, r, b] by rw [hs.1, hs.2.1, hs.2.2.1, hs.2.2.2]; exact HW.out) hz3)
            clear hs HW
            go_wp2_with fail
            go_ret2
            exact ⟨_, _, rfl, HOw.out, HB.out⟩
end Go.Proofs.YthapidnjioindaaDoor
