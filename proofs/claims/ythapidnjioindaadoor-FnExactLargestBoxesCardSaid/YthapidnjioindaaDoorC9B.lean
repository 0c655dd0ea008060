/- Contracts: the cells beside, the program's rows and the model's four places. -/
import Derived.Test.YthapidnjioindaaDoorC9N
namespace Go.Proofs.YthapidnjioindaaDoor
open Go.RowKit

/-- Row y as a number. -/
def NX (X : List Int) (y : Nat) : Nat := (X.getD y 0).toNat
theorem NX_eq {X : List Int} (h : goodR X = true) {y : Nat} (hy : y < 24) : X.getD y 0 = ((NX X y : Nat) : Int) := (goodR_nat h hy).1
theorem NX_lt {X : List Int} (h : goodR X = true) {y : Nat} (hy : y < 24) : NX X y < 1048576 := (goodR_nat h hy).2
/-- The places in row y behind whose side k the region has a cell. -/
def besN (X : List Int) (y k : Nat) : Nat := if k = 0 then 2 * NX X y else if k = 1 then NX X y / 2 else if k = 2 then (if y = 0 then 0 else NX X (y - 1)) else (if y + 1 < 24 then NX X (y + 1) else 0)
set_option maxRecDepth 100000 in
set_option maxHeartbeats 4000000 in
theorem besideRow_any (X : List Int) (a : Option Addr) (c y : Nat) (w : World) (h : RdI w a 24 X) (hN : ∀ j, j < 24 → X.getD j 0 = ((NX X j : Nat) : Int)) (hL : ∀ j, j < 24 → NX X j < 1048576) (hy : y < 24) :
    Calls Tryd.prog 83 #[.slice a 24 c, .int .i64 (y : Int)] w fun e w' => e = .returned (.agg #[.int .i64 (besN X y 0 : Int), .int .i64 (besN X y 1 : Int), .int .i64 (besN X y 2 : Int), .int .i64 (besN X y 3 : Int)]) ∧ Below w.heap.size w w' := by
  obtain ⟨b, o, rfl, hb, hc⟩ := h.2 (by omega)
  have x0 := hc y hy
  rw [hN y hy] at x0
  have l0 := hL y hy
  by_cases hy0 : y = 0
  · subst hy0
    have x1 := hc 1 (by omega)
    rw [hN 1 (by omega)] at x1
    rw [Nat.add_zero] at x0
    rw [show besN X 0 0 = 2 * NX X 0 from rfl, show besN X 0 1 = NX X 0 / 2 from rfl, show besN X 0 2 = 0 from rfl, show besN X 0 3 = NX X 1 from rfl]
    generalize NX X 0 = N0 at *
    generalize NX X 1 = N1 at *
    clear hc hN hL h
    go_enter Tryd.func83, Tryd.ntmps83
    go_wp2_with fail
    go_region
    go_wp2_with fail
    have XX := ((BoxF.new w [.int .i64 ((N0 : Int) * 2), .int .i64 ((N0 : Int) / 2), .int .i64 0, .int .i64 (N1 : Int)] 99).alloc (.cells #[.int .i64 ((N0 : Int) * 2), .int .i64 ((N0 : Int) / 2), .int .i64 0, .int .i64 (N1 : Int)] 99 (0, 0))).drew 1
    have z0 := XX.at 0
    have z1 := XX.at 1
    have z2 := XX.at 2
    have z3 := XX.at 3
    simp only [List.getElem?_cons_zero, List.getElem?_cons_succ] at z0 z1 z2 z3
    have q0 : ((2 * N0 : Nat) : Int) = (N0 : Int) * 2 := by omega
    have q1 : ((N0 / 2 : Nat) : Int) = (N0 : Int) / 2 := by omega
    have HBq := Lib.hid (below_drewN' (((Below.refl _ w).alloc (Nat.le_refl _) (.cells #[.int .i64 ((N0 : Int) * 2), .int .i64 ((N0 : Int) / 2), .int .i64 0, .int .i64 (N1 : Int)] 99 (0, 0))).alloc (by simp) (.cells #[.int .i64 ((N0 : Int) * 2), .int .i64 ((N0 : Int) / 2), .int .i64 0, .int .i64 (N1 : Int)] 99 (0, 0))) 1)
    clear XX
    change World.cell? (World.drew _) _ = _ at z0 z1 z2 z3
    exact bodyPost_ret (v := .agg #[.int .i64 ((N0 : Int) * 2), .int .i64 ((N0 : Int) / 2), .int .i64 0, .int .i64 (N1 : Int)]) (by simp [results, Tryd.results83, go_sem, z0, z1, z2, z3]) rfl ⟨by first | (rw [q0, q1]; done) | (rw [q0, q1]; rfl), HBq.out⟩
  · have x2 := hc (y - 1) (by omega)
    rw [hN (y - 1) (by omega)] at x2
    have ey : ((y - 1 : Nat) : Int) = (y : Int) - 1 := by omega
    have dy : decide (0 < (y : Int)) = true := decide_eq_true (by omega)
    rw [show besN X y 0 = 2 * NX X y from rfl, show besN X y 1 = NX X y / 2 from rfl, show besN X y 2 = NX X (y - 1) by unfold besN; simp [hy0]]
    by_cases hy1 : y + 1 < 24
    · have x1 := hc (y + 1) hy1
      rw [hN (y + 1) hy1] at x1
      rw [show besN X y 3 = NX X (y + 1) by unfold besN; simp [hy1]]
      have d1 : decide ((y : Int) + 1 < 24) = true := decide_eq_true (by omega)
      obtain ⟨u, hu⟩ : ∃ u, y - 1 = u := ⟨_, rfl⟩
      obtain ⟨v, hv⟩ : ∃ v, y + 1 = v := ⟨_, rfl⟩
      rw [hu] at x2 ey ⊢
      rw [hv] at x1 ⊢
      have hu2 : ((y : Int) - 1) = (u : Int) := ey.symm
      have hv2 : ((y : Int) + 1) = (v : Int) := by omega
      have hu3 : u < 24 := by omega
      have hv3 : v < 24 := by omega
      rw [hv2] at d1
      generalize NX X y = N0 at *
      generalize NX X u = N2 at *
      generalize NX X v = N1 at *
      clear hc hN hL h hu hv hy0 hy1 ey
      go_enter Tryd.func83, Tryd.ntmps83
      go_wp2_with fail
      go_region
      go_wp2_with fail
      have XX := ((BoxF.new w [.int .i64 ((N0 : Int) * 2), .int .i64 ((N0 : Int) / 2), .int .i64 (N2 : Int), .int .i64 (N1 : Int)] 99).alloc (.cells #[.int .i64 ((N0 : Int) * 2), .int .i64 ((N0 : Int) / 2), .int .i64 (N2 : Int), .int .i64 (N1 : Int)] 99 (0, 0))).drew 1
      have z0 := XX.at 0
      have z1 := XX.at 1
      have z2 := XX.at 2
      have z3 := XX.at 3
      simp only [List.getElem?_cons_zero, List.getElem?_cons_succ] at z0 z1 z2 z3
      have q0 : ((2 * N0 : Nat) : Int) = (N0 : Int) * 2 := by omega
      have q1 : ((N0 / 2 : Nat) : Int) = (N0 : Int) / 2 := by omega
      have HBq := Lib.hid (below_drewN' (((Below.refl _ w).alloc (Nat.le_refl _) (.cells #[.int .i64 ((N0 : Int) * 2), .int .i64 ((N0 : Int) / 2), .int .i64 (N2 : Int), .int .i64 (N1 : Int)] 99 (0, 0))).alloc (by simp) (.cells #[.int .i64 ((N0 : Int) * 2), .int .i64 ((N0 : Int) / 2), .int .i64 (N2 : Int), .int .i64 (N1 : Int)] 99 (0, 0))) 1)
      clear XX
      change World.cell? (World.drew _) _ = _ at z0 z1 z2 z3
      exact bodyPost_ret (v := .agg #[.int .i64 ((N0 : Int) * 2), .int .i64 ((N0 : Int) / 2), .int .i64 (N2 : Int), .int .i64 (N1 : Int)]) (by simp [results, Tryd.results83, go_sem, z0, z1, z2, z3]) rfl ⟨by first | (rw [q0, q1]; done) | (rw [q0, q1]; rfl), HBq.out⟩
    · rw [show besN X y 3 = 0 by unfold besN; simp [hy1]]
      have d1 : decide ((y : Int) + 1 < 24) = false := decide_eq_false (by omega)
      obtain ⟨u, hu⟩ : ∃ u, y - 1 = u := ⟨_, rfl⟩
      rw [hu] at x2 ey ⊢
      have hu2 : ((y : Int) - 1) = (u : Int) := ey.symm
      have hu3 : u < 24 := by omega
      generalize NX X y = N0 at *
      generalize NX X u = N2 at *
      clear hc hN hL h hu hy0 hy1 ey
      go_enter Tryd.func83, Tryd.ntmps83
      go_wp2_with fail
      go_region
      go_wp2_with fail
      have XX := ((BoxF.new w [.int .i64 ((N0 : Int) * 2), .int .i64 ((N0 : Int) / 2), .int .i64 (N2 : Int), .int .i64 0] 99).alloc (.cells #[.int .i64 ((N0 : Int) * 2), .int .i64 ((N0 : Int) / 2), .int .i64 (N2 : Int), .int .i64 0] 99 (0, 0))).drew 1
      have z0 := XX.at 0
      have z1 := XX.at 1
      have z2 := XX.at 2
      have z3 := XX.at 3
      simp only [List.getElem?_cons_zero, List.getElem?_cons_succ] at z0 z1 z2 z3
      have q0 : ((2 * N0 : Nat) : Int) = (N0 : Int) * 2 := by omega
      have q1 : ((N0 / 2 : Nat) : Int) = (N0 : Int) / 2 := by omega
      have HBq := Lib.hid (below_drewN' (((Below.refl _ w).alloc (Nat.le_refl _) (.cells #[.int .i64 ((N0 : Int) * 2), .int .i64 ((N0 : Int) / 2), .int .i64 (N2 : Int), .int .i64 0] 99 (0, 0))).alloc (by simp) (.cells #[.int .i64 ((N0 : Int) * 2), .int .i64 ((N0 : Int) / 2), .int .i64 (N2 : Int), .int .i64 0] 99 (0, 0))) 1)
      clear XX
      change World.cell? (World.drew _) _ = _ at z0 z1 z2 z3
      exact bodyPost_ret (v := .agg #[.int .i64 ((N0 : Int) * 2), .int .i64 ((N0 : Int) / 2), .int .i64 (N2 : Int), .int .i64 0]) (by simp [results, Tryd.results83, go_sem, z0, z1, z2, z3]) rfl ⟨by first | (rw [q0, q1]; done) | (rw [q0, q1]; rfl), HBq.out⟩
/-- The model's places beside a cell. -/
def bxZ (x : Int) (k : Nat) : Int := if k = 0 then x - 1 else if k = 1 then x + 1 else x
def byZ (y : Int) (k : Nat) : Int := if k = 2 then y - 1 else if k = 3 then y + 1 else y
/-- The four places lie there. -/
def Lies4 (W : World) (p : Nat) (x y : Int) : Prop := ∀ k, k < 4 → ∃ g : Nat, W.cell? ⟨p, k, none⟩ = some (.slice (some ⟨g, 0, none⟩) 2 2) ∧ W.cell? ⟨g, 0, none⟩ = some (.int .i64 (bxZ x k)) ∧ W.cell? ⟨g, 1, none⟩ = some (.int .i64 (byZ y k)) ∧ p < W.heap.size ∧ g < W.heap.size
theorem Lies4.below {W W' : World} {p : Nat} {x y : Int} (h : Lies4 W p x y) (hb : Below W.heap.size W W') : Lies4 W' p x y := fun k hk => by
  obtain ⟨g, h1, h2, h3, h4, h5⟩ := h k hk
  have hs := hb.size
  exact ⟨g, (hb.cell (p := ⟨p, k, none⟩) h4).trans h1, (hb.cell (p := ⟨g, 0, none⟩) h5).trans h2, (hb.cell (p := ⟨g, 1, none⟩) h5).trans h3, by omega, by omega⟩
set_option maxRecDepth 100000 in
set_option maxHeartbeats 2000000 in
theorem l9Beside_any (x y : Int) (w : World) (hx0 : 0 ≤ x) (hx1 : x ≤ 100) (hy0 : 0 ≤ y) (hy1 : y ≤ 100) :
    Calls Tryd.prog 86 #[.int .i64 x, .int .i64 y] w fun e w' => ∃ p : Nat, e = .returned (.slice (some ⟨p, 0, none⟩) 4 4) ∧ Lies4 w' p x y ∧ Below w.heap.size w w' := by
  have B0 := ((((BoxF.new w [.int .i64 (x - 1), .int .i64 y] 3).alloc (.cells #[.int .i64 (x + 1), .int .i64 y] 3 (0, 0))).alloc (.cells #[.int .i64 x, .int .i64 (y - 1)] 3 (0, 0))).alloc (.cells #[.int .i64 x, .int .i64 (y + 1)] 3 (0, 0))).alloc (.cells #[.slice (some ⟨w.heap.size, 0, none⟩) 2 2, .slice (some ⟨w.heap.size + 1, 0, none⟩) 2 2, .slice (some ⟨w.heap.size + 1 + 1, 0, none⟩) 2 2, .slice (some ⟨w.heap.size + 1 + 1 + 1, 0, none⟩) 2 2] 24 (0, 0))
  have B1 := (((BoxF.new (w.alloc (.cells #[.int .i64 (x - 1), .int .i64 y] 3 (0, 0))) [.int .i64 (x + 1), .int .i64 y] 3).alloc (.cells #[.int .i64 x, .int .i64 (y - 1)] 3 (0, 0))).alloc (.cells #[.int .i64 x, .int .i64 (y + 1)] 3 (0, 0))).alloc (.cells #[.slice (some ⟨w.heap.size, 0, none⟩) 2 2, .slice (some ⟨w.heap.size + 1, 0, none⟩) 2 2, .slice (some ⟨w.heap.size + 1 + 1, 0, none⟩) 2 2, .slice (some ⟨w.heap.size + 1 + 1 + 1, 0, none⟩) 2 2] 24 (0, 0))
  have B2 := ((BoxF.new ((w.alloc (.cells #[.int .i64 (x - 1), .int .i64 y] 3 (0, 0))).alloc (.cells #[.int .i64 (x + 1), .int .i64 y] 3 (0, 0))) [.int .i64 x, .int .i64 (y - 1)] 3).alloc (.cells #[.int .i64 x, .int .i64 (y + 1)] 3 (0, 0))).alloc (.cells #[.slice (some ⟨w.heap.size, 0, none⟩) 2 2, .slice (some ⟨w.heap.size + 1, 0, none⟩) 2 2, .slice (some ⟨w.heap.size + 1 + 1, 0, none⟩) 2 2, .slice (some ⟨w.heap.size + 1 + 1 + 1, 0, none⟩) 2 2] 24 (0, 0))
  have B3 := (BoxF.new (((w.alloc (.cells #[.int .i64 (x - 1), .int .i64 y] 3 (0, 0))).alloc (.cells #[.int .i64 (x + 1), .int .i64 y] 3 (0, 0))).alloc (.cells #[.int .i64 x, .int .i64 (y - 1)] 3 (0, 0))) [.int .i64 x, .int .i64 (y + 1)] 3).alloc (.cells #[.slice (some ⟨w.heap.size, 0, none⟩) 2 2, .slice (some ⟨w.heap.size + 1, 0, none⟩) 2 2, .slice (some ⟨w.heap.size + 1 + 1, 0, none⟩) 2 2, .slice (some ⟨w.heap.size + 1 + 1 + 1, 0, none⟩) 2 2] 24 (0, 0))
  have BP := BoxF.new ((((w.alloc (.cells #[.int .i64 (x - 1), .int .i64 y] 3 (0, 0))).alloc (.cells #[.int .i64 (x + 1), .int .i64 y] 3 (0, 0))).alloc (.cells #[.int .i64 x, .int .i64 (y - 1)] 3 (0, 0))).alloc (.cells #[.int .i64 x, .int .i64 (y + 1)] 3 (0, 0))) [.slice (some ⟨w.heap.size, 0, none⟩) 2 2, .slice (some ⟨w.heap.size + 1, 0, none⟩) 2 2, .slice (some ⟨w.heap.size + 1 + 1, 0, none⟩) 2 2, .slice (some ⟨w.heap.size + 1 + 1 + 1, 0, none⟩) 2 2] 24
  simp only [World.size_alloc] at B1 B2 B3 BP
  have HL : Lies4 _ (w.heap.size + 1 + 1 + 1 + 1) x y := fun k hk => by
    have hk4 : k = 0 ∨ k = 1 ∨ k = 2 ∨ k = 3 := by omega
    rcases hk4 with rfl | rfl | rfl | rfl
    · exact ⟨w.heap.size, BP.at 0, B0.at 0, B0.at 1, BP.lt, B0.lt⟩
    · exact ⟨w.heap.size + 1, BP.at 1, B1.at 0, B1.at 1, BP.lt, B1.lt⟩
    · exact ⟨w.heap.size + 1 + 1, BP.at 2, B2.at 0, B2.at 1, BP.lt, B2.lt⟩
    · exact ⟨w.heap.size + 1 + 1 + 1, BP.at 3, B3.at 0, B3.at 1, BP.lt, B3.lt⟩
  have HL := Lib.hid HL
  have HB := Lib.hid ((((((Below.refl _ w).alloc (Nat.le_refl _) (.cells #[.int .i64 (x - 1), .int .i64 y] 3 (0, 0))).alloc (by simp) (.cells #[.int .i64 (x + 1), .int .i64 y] 3 (0, 0))).alloc (by simp; omega) (.cells #[.int .i64 x, .int .i64 (y - 1)] 3 (0, 0))).alloc (by simp; omega) (.cells #[.int .i64 x, .int .i64 (y + 1)] 3 (0, 0))).alloc (by simp; omega) (.cells #[.slice (some ⟨w.heap.size, 0, none⟩) 2 2, .slice (some ⟨w.heap.size + 1, 0, none⟩) 2 2, .slice (some ⟨w.heap.size + 1 + 1, 0, none⟩) 2 2, .slice (some ⟨w.heap.size + 1 + 1 + 1, 0, none⟩) 2 2] 24 (0, 0)))
  clear B0 B1 B2 B3 BP
  go_enter Tryd.func86, Tryd.ntmps86
  go_wp2_with fail
  go_ret
  exact ⟨_, rfl, HL.out, HB.out⟩
/-- The model asks for a cell at any two numbers. -/
theorem l9Has_any (X : List Int) (hg : goodR X = true) (a : Option Addr) (c : Nat) (x y : Int) (w : World) (h : RdI w a 24 X) :
    Calls Tryd.prog 87 #[.agg #[.slice a 24 c], .int .i64 x, .int .i64 y] w fun e w' => e = .returned (.bool (hasZ X x y)) ∧ Below w.heap.size w w' := by
  by_cases hin : (0 ≤ x ∧ x ≤ 19) ∧ (0 ≤ y ∧ y ≤ 23)
  · obtain ⟨u, rfl⟩ : ∃ u : Nat, x = u := ⟨x.toNat, by omega⟩
    obtain ⟨v, rfl⟩ : ∃ v : Nat, y = v := ⟨y.toNat, by omega⟩
    rw [show hasZ X (u : Int) (v : Int) = hasB X u v by unfold hasZ; rw [decide_eq_true hin.1, decide_eq_true hin.2]; simp]
    exact l9Has_in X a c u v (NX X v) w h (by omega) (by omega) (NX_eq hg (by omega)) (NX_lt hg (by omega))
  · rw [show hasZ X x y = false by
      unfold hasZ
      by_cases h1 : 0 ≤ x ∧ x ≤ 19
      · rw [decide_eq_false (p := 0 ≤ y ∧ y ≤ 23) (fun h2 => hin ⟨h1, h2⟩)]; simp
      · rw [decide_eq_false h1]; rfl]
    exact l9Has_out a 24 c x y w hin
end Go.Proofs.YthapidnjioindaaDoor
