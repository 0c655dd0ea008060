/- Contracts of the program's chapter 10: parts and tinctures of cells; the tests of its regions. -/
import Derived.Test.YtkhpgggaaldhhaaDoorC10J
import Derived.Test.YtkhpgggaaldhhaaDoorC9W
import Derived.Deep.RegionHeld3
namespace Go.Proofs.YtkhpgggaaldhhaaDoor
open Go.RowKit

/-- The numbers are a valid field's and a cell's of the shield. -/
def okPart (d l f s x y : Int) : Bool := decide (FOk d l f s) && shZ x y
def partA (d l x y : Int) : Int := if lnFirst d l x.toNat y.toNat then 0 else 1
theorem shZ_out {x y : Int} (h : shZ x y = true) : ∃ a b : Nat, x = a ∧ y = b ∧ a < 20 ∧ b < 24 := by
  unfold shZ at h
  simp only [Bool.and_eq_true, decide_eq_true_eq] at h
  exact ⟨x.toNat, y.toNat, by omega, by omega, by omega, by omega⟩
set_option maxHeartbeats 4000000 in
theorem fpart_impl (d l f s x y : Int) (w : World) (hT : OffsLie w) :
    Calls Tryd.prog 31 #[.agg #[.int .i64 d, .int .i64 l, .int .i64 f, .int .i64 s], .int .i64 x, .int .i64 y] w fun e w' => e = .returned (.tuple #[.int .i64 (if okPart d l f s x y then partA d l x y else 0), .bool (okPart d l f s x y)]) ∧ Below w.heap.size w w' := by
  unfold okPart
  obtain ⟨p1, e1⟩ : ∃ p, decide (FOk d l f s) = p := ⟨_, rfl⟩
  obtain ⟨p2, e2⟩ : ∃ p, shZ x y = p := ⟨_, rfl⟩
  have CF := Lib.hid (fun W => validField_impl d l f s W p1 e1)
  have CS := inShield_impl x y
  rw [e1, e2]
  rw [e2] at CS
  have CS := Lib.hid CS
  cases p1
  · clear e1 e2 hT
    go_enter Tryd.func31, Tryd.ntmps31
    go_wp2_with fail
    refine (CF.out _).mono ?_
    rintro e w1 ⟨rfl, hb1⟩
    have HB1 := Lib.hid (((Below.refl w.heap.size w).alloc (Nat.le_refl _) (.cells #[.int .i64 d, .int .i64 l, .int .i64 f, .int .i64 s] 30 (0, 0))).trans (hb1.mono (by simp)))
    clear hb1
    go_wp2_with fail
    go_ret2
    exact ⟨by first | rfl | simp, HB1.out⟩
  cases p2
  · clear e1 e2 hT
    go_enter Tryd.func31, Tryd.ntmps31
    go_wp2_with fail
    refine (CF.out _).mono ?_
    rintro e w1 ⟨rfl, hb1⟩
    have HB1 := Lib.hid (((Below.refl w.heap.size w).alloc (Nat.le_refl _) (.cells #[.int .i64 d, .int .i64 l, .int .i64 f, .int .i64 s] 30 (0, 0))).trans (hb1.mono (by simp)))
    clear hb1
    go_wp2_with fail
    refine (CS.out _).mono ?_
    rintro e w2 ⟨rfl, rfl⟩
    go_wp2_with fail
    go_ret2
    exact ⟨by first | rfl | simp, HB1.out⟩
  obtain ⟨hd, hl, _, _⟩ := of_decide_eq_true e1
  obtain ⟨a, b, rfl, rfl, ha, hb⟩ := shZ_out e2
  rw [show partA d l (a : Int) (b : Int) = (if lnFirst d l a b then 0 else 1) from rfl]
  simp only [Bool.and_self, if_true]
  have X0 := BoxF.new w [.int .i64 d, .int .i64 l, .int .i64 f, .int .i64 s] 30
  have hB0 := (Below.refl w.heap.size w).alloc (Nat.le_refl _) (.cells #[.int .i64 d, .int .i64 l, .int .i64 f, .int .i64 s] 30 (0, 0))
  have HX0 := Lib.hid X0
  have HB0 := Lib.hid hB0
  have CW := Lib.hid (fun W (h : Below w.heap.size w W) => swung_any l a b W (hT.below h) ha hb hl.1 hl.2)
  have b1 := swX_in l b ha
  have b2 := swY_in l a hb
  have CI := Lib.hid (fun W => first_any d (swX l a b) (swY l a b) (swF l a b) (swR l a b) (swG l a b) W (by omega) (by omega) (by omega) (by omega) hd.1 hd.2)
  change Hid (∀ W, Calls _ _ _ W fun e w' => e = .returned (.bool (lnFirst d l a b)) ∧ Below W.heap.size W w') at CI
  obtain ⟨r, hr⟩ : ∃ r, lnFirst d l a b = r := ⟨_, rfl⟩
  rw [hr] at CI ⊢
  clear hr
  generalize swX l a b = z0 at *
  generalize swY l a b = z1 at *
  generalize swF l a b = z2 at *
  generalize swR l a b = z3 at *
  generalize swG l a b = z4 at *
  clear e1 e2 hT hB0 X0 hd hl b1 b2
  have q_ : ∀ (w1 W W' : World), w.heap.size < w1.heap.size → Below w.heap.size w w1 → (W.cell? ⟨w.heap.size, 0, none⟩ = some (.int .i64 d) ∧ W.cell? ⟨w.heap.size, 1, none⟩ = some (.int .i64 l) ∧ Below w1.heap.size w1 W) → Below W.heap.size W W' → (W'.cell? ⟨w.heap.size, 0, none⟩ = some (.int .i64 d) ∧ W'.cell? ⟨w.heap.size, 1, none⟩ = some (.int .i64 l) ∧ Below w1.heap.size w1 W') := fun w1 W W' hlt _ h hbb => by
    have hs := h.2.2.size
    exact ⟨(hbb.cell (p := ⟨w.heap.size, 0, none⟩) (Nat.lt_of_lt_of_le hlt hs)).trans h.1, (hbb.cell (p := ⟨w.heap.size, 1, none⟩) (Nat.lt_of_lt_of_le hlt hs)).trans h.2.1, h.2.2.trans (hbb.mono hs)⟩
  go_enter Tryd.func31, Tryd.ntmps31
  go_wp2_with fail
  refine (CF.out _).mono ?_
  rintro e w1 ⟨rfl, hb1⟩
  have HX1 := Lib.hid (HX0.out.below hb1)
  have HB1 := Lib.hid (HB0.out.trans (hb1.mono HB0.out.size))
  have hs1 := hb1.size
  simp only [World.size_alloc] at hs1
  clear hb1 HX0 HB0
  go_wp2_with fail
  refine (CS.out _).mono ?_
  rintro e w2 ⟨rfl, rfl⟩
  have Q := fun W W' => q_ w1 W W' (by omega) HB1.out
  have HS0 : w1.drew.cell? ⟨w.heap.size, 0, none⟩ = some (.int .i64 d) ∧ w1.drew.cell? ⟨w.heap.size, 1, none⟩ = some (.int .i64 l) ∧ Below w1.heap.size w1 w1.drew := ⟨HX1.out.at 0, HX1.out.at 1, below_drewN' (Below.refl _ w1) 1⟩
  have CW2 := Lib.hid (fun W (h : W.cell? ⟨w.heap.size, 0, none⟩ = some (.int .i64 d) ∧ W.cell? ⟨w.heap.size, 1, none⟩ = some (.int .i64 l) ∧ Below w1.heap.size w1 W) => (CW.out W (HB1.out.trans (h.2.2.mono HB1.out.size))).mono (fun e w' hh => And.intro hh.1 (Q _ _ h hh.2)))
  have CI2 := Lib.hid (fun W (h : W.cell? ⟨w.heap.size, 0, none⟩ = some (.int .i64 d) ∧ W.cell? ⟨w.heap.size, 1, none⟩ = some (.int .i64 l) ∧ Below w1.heap.size w1 W) => (CI.out W).mono (fun e w' hh => And.intro hh.1 (Q _ _ h hh.2)))
  have c0 : w1.cell? ⟨w.heap.size, 0, none⟩ = some (.int .i64 d) := HX1.out.at 0
  have c1 : w1.cell? ⟨w.heap.size, 1, none⟩ = some (.int .i64 l) := HX1.out.at 1
  clear Q q_ CW CI
  cases r
  all_goals
    go_wp2_with fail
    go_region_held3 (fun w' => w'.cell? ⟨w.heap.size, 0, none⟩ = some (.int .i64 d) ∧ w'.cell? ⟨w.heap.size, 1, none⟩ = some (.int .i64 l) ∧ Below w1.heap.size w1 w')
      (first | go_keep | exact HS0 | exact ⟨h0, h1, hh⟩ | exact ⟨k0, k1, kk⟩)
      (first
        | (go_at_call 68; (with_reducible refine (CW2.out _ ?_).mono ?_); (first | assumption | simp [*]); rintro e whh ⟨rfl, h0, h1, hh⟩)
        | (go_at_call 69; (with_reducible refine (CI2.out _ ?_).mono ?_); (first | assumption | simp [*]); rintro e wkk ⟨rfl, k0, k1, kk⟩))
    all_goals
      rename_i hlast
      have K := Lib.hid (HB1.out.trans (hlast.2.2.mono HB1.out.size))
      go_wp2_with fail
      go_ret2
      exact ⟨by first | rfl | simp, K.out⟩
end Go.Proofs.YtkhpgggaaldhhaaDoor
