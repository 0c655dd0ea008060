/- Contracts of the model's chapter 10: parts and ordinaries with a line, parts and tinctures of cells. -/
import Derived.Test.YtkhpgggaaldhhaaDoorC10S
import Derived.Test.YtkhpgggaaldhhaaDoorC10F
import Derived.Deep.RegionHeld3
namespace Go.Proofs.YtkhpgggaaldhhaaDoor
open Go.RowKit

theorem least_any (a b : Int) (w : World) :
    Calls Tryd.prog 91 #[.int .i64 a, .int .i64 b] w fun e w' => e = .returned (.int .i64 (if b < a then b else a)) ∧ w = w' := by
  by_cases h : b < a
  · rw [if_pos h]
    have e1 : decide (b < a) = true := decide_eq_true h
    have e2 : decide (a < b) = false := decide_eq_false (by omega)
    have e3 : decide (a ≤ b) = false := decide_eq_false (by omega)
    go_enter Tryd.func91, Tryd.ntmps91
    go_wp2_with fail
    go_ret
    exact ⟨rfl, rfl⟩
  · rw [if_neg h]
    by_cases h2 : a < b
    · have e1 : decide (b < a) = false := decide_eq_false h
      have e2 : decide (a < b) = true := decide_eq_true h2
      go_enter Tryd.func91, Tryd.ntmps91
      go_wp2_with fail
      go_ret
      exact ⟨rfl, rfl⟩
    · obtain rfl : a = b := by omega
      have e1 : decide (a < a) = false := decide_eq_false h
      go_enter Tryd.func91, Tryd.ntmps91
      go_wp2_with fail
      go_ret
      exact ⟨rfl, rfl⟩
theorem l10Down_any (l : Int) (x y : Nat) (w : World) (h0 : 0 ≤ l) (h1 : l ≤ 4) (hx : x < 20) (hy : y < 24) :
    Calls Tryd.prog 88 #[.int .i64 l, .int .i64 (x : Int), .int .i64 (y : Int)] w fun e w' => e = .returned (.int .i64 (swF l x y)) ∧ Below w.heap.size w w' := by
  have CD := Lib.hid (fun W => l9Down_any x y W (by omega) (by omega) (by omega) (by omega))
  change Hid (∀ W, Calls _ _ _ W fun e w' => e = .returned (.int .i64 (fallZ x y)) ∧ W = w') at CD
  have CO := fun W => l10Offset_any l (x + y) W h0 h1 (by omega)
  rw [show ((x + y : Nat) : Int) = (x : Int) + (y : Int) by omega] at CO
  have CO := Lib.hid CO
  have hz := offZ_in l (x + y)
  have hf : -10000 ≤ fallZ x y ∧ fallZ x y ≤ 10000 := by unfold fallZ; omega
  unfold swF
  generalize offZ l (x + y) = z at *
  generalize fallZ x y = f at *
  clear h0 h1
  go_enter Tryd.func88, Tryd.ntmps88
  go_wp2_with fail
  refine (CD.out _).mono ?_
  rintro e w' ⟨rfl, rfl⟩
  go_wp2_with fail
  refine (CO.out _).mono ?_
  rintro e w' ⟨rfl, hb⟩
  go_wp2_with fail
  go_ret
  exact ⟨rfl, hb⟩
theorem l10Down_rise (l : Int) (x y : Nat) (w : World) (h0 : 0 ≤ l) (h1 : l ≤ 4) (hx : x < 20) (hy : y < 24) :
    Calls Tryd.prog 88 #[.int .i64 l, .int .i64 (19 - (x : Int)), .int .i64 (y : Int)] w fun e w' => e = .returned (.int .i64 (swR l x y)) ∧ Below w.heap.size w w' := by
  have h := l10Down_any l (19 - x) y w h0 h1 (by omega) hy
  rw [show ((19 - x : Nat) : Int) = 19 - (x : Int) by omega] at h
  have e : swF l (19 - x) y = swR l x y := by
    unfold swF swR
    have : fallZ (19 - x) y = riseZ x y := by unfold fallZ riseZ; omega
    rw [this]
  rw [e] at h
  exact h
theorem clamp_nat (v : Int) (m : Nat) : ∃ c : Nat, c ≤ m ∧ (c : Int) = clampZ v m ∧ (if 0 < (if v < (m : Int) then v else (m : Int)) then (if v < (m : Int) then v else (m : Int)) else 0) = (c : Int) := by
  refine ⟨(clampZ v m).toNat, ?_, ?_, ?_⟩
  all_goals (unfold clampZ; repeat' split)
  all_goals omega
theorem clamp_lt {v : Int} {c m : Nat} {k : Int} (h : (c : Int) = clampZ v m) (h0 : 0 < k) (h1 : k ≤ m) : decide ((c : Int) < k) = decide (v < k) := by
  rw [h]
  unfold clampZ
  by_cases h2 : v < k
  · rw [decide_eq_true h2]
    apply decide_eq_true
    repeat' split
    all_goals omega
  · rw [decide_eq_false h2]
    apply decide_eq_false
    repeat' split
    all_goals omega

set_option maxHeartbeats 4000000 in
theorem l10Part_any (d l f s : Int) (x y : Nat) (w : World) (hx : x < 20) (hy : y < 24) (hd0 : 0 ≤ d) (hd1 : d ≤ 7) (h0 : 0 ≤ l) (h1 : l ≤ 4) :
    Calls Tryd.prog 61 #[.agg #[.int .i64 d, .int .i64 l, .int .i64 f, .int .i64 s], .int .i64 (x : Int), .int .i64 (y : Int)] w fun e w' => e = .returned (.int .i64 (if lnFirst d l x y then 0 else 1)) ∧ Below w.heap.size w w' := by
  have CF := Lib.hid (fun W => l10Down_any l x y W h0 h1 hx hy)
  have CR := Lib.hid (fun W => l10Down_rise l x y W h0 h1 hx hy)
  have CX := Lib.hid (fun W => l10Offset_any l y W h0 h1 (by omega))
  have CY := Lib.hid (fun W => l10Offset_any l x W h0 h1 (by omega))
  have hzx := offZ_in l y
  have hzy := offZ_in l x
  obtain ⟨cx, hcx0, hcx1, hcx2⟩ := clamp_nat (swX l x y) 19
  obtain ⟨cy, hcy0, hcy1, hcy2⟩ := clamp_nat (swY l x y) 23
  have X0 := BoxF.new w [.int .i64 d, .int .i64 l, .int .i64 f, .int .i64 s] 30
  have hB0 := (Below.refl w.heap.size w).alloc (Nat.le_refl _) (.cells #[.int .i64 d, .int .i64 l, .int .i64 f, .int .i64 s] 30 (0, 0))
  obtain ⟨W1, hW1⟩ : ∃ W1, w.alloc (.cells #[.int .i64 d, .int .i64 l, .int .i64 f, .int .i64 s] 30 (0, 0)) = W1 := ⟨_, rfl⟩
  have hs1 : w.heap.size < W1.heap.size := by rw [← hW1]; simp
  change BoxF (w.alloc (.cells #[.int .i64 d, .int .i64 l, .int .i64 f, .int .i64 s] 30 (0, 0))) _ _ _ at X0
  rw [hW1] at X0 hB0
  have c0 : W1.cell? ⟨w.heap.size, 0, none⟩ = some (.int .i64 d) := X0.at 0
  have c1 : W1.cell? ⟨w.heap.size, 1, none⟩ = some (.int .i64 l) := X0.at 1
  have Q : ∀ (W W' : World), (W.cell? ⟨w.heap.size, 0, none⟩ = some (.int .i64 d) ∧ W.cell? ⟨w.heap.size, 1, none⟩ = some (.int .i64 l) ∧ Below W1.heap.size W1 W) → Below W.heap.size W W' → (W'.cell? ⟨w.heap.size, 0, none⟩ = some (.int .i64 d) ∧ W'.cell? ⟨w.heap.size, 1, none⟩ = some (.int .i64 l) ∧ Below W1.heap.size W1 W') := fun W W' h hbb => by
    have hs := h.2.2.size
    exact ⟨(hbb.cell (p := ⟨w.heap.size, 0, none⟩) (Nat.lt_of_lt_of_le hs1 hs)).trans h.1, (hbb.cell (p := ⟨w.heap.size, 1, none⟩) (Nat.lt_of_lt_of_le hs1 hs)).trans h.2.1, h.2.2.trans (hbb.mono hs)⟩
  have HS0 : W1.drew.cell? ⟨w.heap.size, 0, none⟩ = some (.int .i64 d) ∧ W1.drew.cell? ⟨w.heap.size, 1, none⟩ = some (.int .i64 l) ∧ Below W1.heap.size W1 W1.drew := ⟨c0, c1, below_drewN' (Below.refl _ W1) 1⟩
  have HB0 := Lib.hid hB0
  clear X0 hB0 h0 h1
  have hd : d = 0 ∨ d = 1 ∨ d = 2 ∨ d = 3 ∨ d = 4 ∨ d = 5 ∨ d = 6 ∨ d = 7 := by omega
  rcases hd with rfl | rfl | rfl | rfl | rfl | rfl | rfl | rfl
  · obtain ⟨r, hr⟩ : ∃ r, lnFirst 0 l x y = r := ⟨_, rfl⟩
    rw [hr]
    have hr0 : r = true := by rw [← hr]; simp [lnFirst, firstS]
    subst hr0
    clear hr Q HS0
    go_enter Tryd.func61, Tryd.ntmps61
    go_wp2_with fail
    go_ret
    exact ⟨by first | rfl | simp, HB0.out⟩
  · have hr : lnFirst 1 l x y = firstB 1 cx y := by
      have := clamp_lt (k := 10) hcx1 (by omega) (by omega)
      simpa [lnFirst, firstS, firstB] using this.symm
    rw [hr]
    have CP := Lib.hid (fun W => l9Part_any 1 cx y W (by omega) (by omega) (by omega) (by omega))
    change (if 0 < (if (x : Int) - offZ l y < ((19 : Nat) : Int) then (x : Int) - offZ l y else ((19 : Nat) : Int)) then (if (x : Int) - offZ l y < ((19 : Nat) : Int) then (x : Int) - offZ l y else ((19 : Nat) : Int)) else 0) = _ at hcx2
    obtain ⟨z, hz⟩ : ∃ z, offZ l y = z := ⟨_, rfl⟩
    rw [hz] at CX hzx hcx2
    have CL := Lib.hid (fun W => least_any 19 ((x : Int) - z) W)
    obtain ⟨mm, hmm⟩ : ∃ q, (if (x : Int) - z < ((19 : Nat) : Int) then (x : Int) - z else ((19 : Nat) : Int)) = q := ⟨_, rfl⟩
    rw [hmm] at hcx2
    change Hid (∀ W, Calls _ _ _ W fun e w' => e = .returned (.int .i64 (if (x : Int) - z < ((19 : Nat) : Int) then (x : Int) - z else ((19 : Nat) : Int))) ∧ W = w') at CL
    rw [hmm] at CL
    have CM := fun W => l1Most_any 0 mm W
    rw [hcx2] at CM
    have CM := Lib.hid CM
    obtain ⟨r, hr2⟩ : ∃ r, firstB 1 cx y = r := ⟨_, rfl⟩
    rw [hr2] at CP ⊢
    obtain ⟨vr, hvr⟩ : ∃ v : Int, (if r = true then (0 : Int) else 1) = v := ⟨_, rfl⟩
    rw [hvr] at CP ⊢
    clear hvr hr hr2 hz hmm hcx1 hcx2 hcy1 hcy2
    have CX9 := Lib.hid (fun W (h : W.cell? ⟨w.heap.size, 0, none⟩ = some (.int .i64 1) ∧ W.cell? ⟨w.heap.size, 1, none⟩ = some (.int .i64 l) ∧ Below W1.heap.size W1 W) => (CX.out W).mono (fun e w' hh => And.intro hh.1 (Q _ _ h hh.2)))
    have CP9 := Lib.hid (fun W (h : W.cell? ⟨w.heap.size, 0, none⟩ = some (.int .i64 1) ∧ W.cell? ⟨w.heap.size, 1, none⟩ = some (.int .i64 l) ∧ Below W1.heap.size W1 W) => (CP.out W).mono (fun e w' hh => And.intro hh.1 (Q _ _ h hh.2)))
    have CL9 := Lib.hid (fun W (h : W.cell? ⟨w.heap.size, 0, none⟩ = some (.int .i64 1) ∧ W.cell? ⟨w.heap.size, 1, none⟩ = some (.int .i64 l) ∧ Below W1.heap.size W1 W) => (CL.out W).mono (fun e w' hh => And.intro hh.1 (Q W w' h (by rw [← hh.2]; exact Below.refl _ _))))
    have CM9 := Lib.hid (fun W (h : W.cell? ⟨w.heap.size, 0, none⟩ = some (.int .i64 1) ∧ W.cell? ⟨w.heap.size, 1, none⟩ = some (.int .i64 l) ∧ Below W1.heap.size W1 W) => (CM.out W).mono (fun e w' hh => And.intro hh.1 (Q W w' h (by rw [← hh.2]; exact Below.refl _ _))))
    have ew : IntKind.i64.wrap ((x : Int) - z) = ((x : Int) - z) := by simp [IntKind.wrap, IntKind.bits, IntKind.signed]; omega
    clear Q
    go_enter Tryd.func61, Tryd.ntmps61
    go_wp2_with fail
    go_region_held3 (fun w' => w'.cell? ⟨w.heap.size, 0, none⟩ = some (.int .i64 1) ∧ w'.cell? ⟨w.heap.size, 1, none⟩ = some (.int .i64 l) ∧ Below W1.heap.size W1 w')
      (first | go_keep | exact HS0 | exact ⟨hp0, hp1, hp2⟩ | exact ⟨hq0, hq1, hq2⟩ | exact ⟨hu0, hu1, hu2⟩ | exact ⟨hv0, hv1, hv2⟩)
      (first
        | (go_at_call 52; (with_reducible refine (CX9.out _ ?_).mono ?_); (first | assumption | simp [*]); rintro e wp ⟨rfl, hp0, hp1, hp2⟩)
        | (go_at_call 91; (with_reducible refine (CL9.out _ ?_).mono ?_); (first | assumption | simp [*]); rintro e wq ⟨rfl, hq0, hq1, hq2⟩)
        | (go_at_call 90; (with_reducible refine (CM9.out _ ?_).mono ?_); (first | assumption | simp [*]); rintro e wu ⟨rfl, hu0, hu1, hu2⟩)
        | (go_at_call 89; (with_reducible refine (CP9.out _ ?_).mono ?_); (first | assumption | simp [*]); rintro e wv ⟨rfl, hv0, hv1, hv2⟩))
    all_goals
      rename_i hlast
      have K := Lib.hid (HB0.out.trans (hlast.2.2.mono HB0.out.size))
      go_wp2_with fail
      go_ret
      exact ⟨by first | rfl | simp, K.out⟩
  · have hr : lnFirst 2 l x y = firstB 2 x cy := by
      have := clamp_lt (k := 12) hcy1 (by omega) (by omega)
      simpa [lnFirst, firstS, firstB] using this.symm
    rw [hr]
    have CP := Lib.hid (fun W => l9Part_any 2 x cy W (by omega) (by omega) (by omega) (by omega))
    change (if 0 < (if (y : Int) - offZ l x < ((23 : Nat) : Int) then (y : Int) - offZ l x else ((23 : Nat) : Int)) then (if (y : Int) - offZ l x < ((23 : Nat) : Int) then (y : Int) - offZ l x else ((23 : Nat) : Int)) else 0) = _ at hcy2
    obtain ⟨z, hz⟩ : ∃ z, offZ l x = z := ⟨_, rfl⟩
    rw [hz] at CY hzy hcy2
    have CL := Lib.hid (fun W => least_any 23 ((y : Int) - z) W)
    obtain ⟨mm, hmm⟩ : ∃ q, (if (y : Int) - z < ((23 : Nat) : Int) then (y : Int) - z else ((23 : Nat) : Int)) = q := ⟨_, rfl⟩
    rw [hmm] at hcy2
    change Hid (∀ W, Calls _ _ _ W fun e w' => e = .returned (.int .i64 (if (y : Int) - z < ((23 : Nat) : Int) then (y : Int) - z else ((23 : Nat) : Int))) ∧ W = w') at CL
    rw [hmm] at CL
    have CM := fun W => l1Most_any 0 mm W
    rw [hcy2] at CM
    have CM := Lib.hid CM
    obtain ⟨r, hr2⟩ : ∃ r, firstB 2 x cy = r := ⟨_, rfl⟩
    rw [hr2] at CP ⊢
    obtain ⟨vr, hvr⟩ : ∃ v : Int, (if r = true then (0 : Int) else 1) = v := ⟨_, rfl⟩
    rw [hvr] at CP ⊢
    clear hvr hr hr2 hz hmm hcx1 hcx2 hcy1 hcy2
    have CY9 := Lib.hid (fun W (h : W.cell? ⟨w.heap.size, 0, none⟩ = some (.int .i64 2) ∧ W.cell? ⟨w.heap.size, 1, none⟩ = some (.int .i64 l) ∧ Below W1.heap.size W1 W) => (CY.out W).mono (fun e w' hh => And.intro hh.1 (Q _ _ h hh.2)))
    have CP9 := Lib.hid (fun W (h : W.cell? ⟨w.heap.size, 0, none⟩ = some (.int .i64 2) ∧ W.cell? ⟨w.heap.size, 1, none⟩ = some (.int .i64 l) ∧ Below W1.heap.size W1 W) => (CP.out W).mono (fun e w' hh => And.intro hh.1 (Q _ _ h hh.2)))
    have CL9 := Lib.hid (fun W (h : W.cell? ⟨w.heap.size, 0, none⟩ = some (.int .i64 2) ∧ W.cell? ⟨w.heap.size, 1, none⟩ = some (.int .i64 l) ∧ Below W1.heap.size W1 W) => (CL.out W).mono (fun e w' hh => And.intro hh.1 (Q W w' h (by rw [← hh.2]; exact Below.refl _ _))))
    have CM9 := Lib.hid (fun W (h : W.cell? ⟨w.heap.size, 0, none⟩ = some (.int .i64 2) ∧ W.cell? ⟨w.heap.size, 1, none⟩ = some (.int .i64 l) ∧ Below W1.heap.size W1 W) => (CM.out W).mono (fun e w' hh => And.intro hh.1 (Q W w' h (by rw [← hh.2]; exact Below.refl _ _))))
    have ew : IntKind.i64.wrap ((y : Int) - z) = ((y : Int) - z) := by simp [IntKind.wrap, IntKind.bits, IntKind.signed]; omega
    clear Q
    go_enter Tryd.func61, Tryd.ntmps61
    go_wp2_with fail
    go_region_held3 (fun w' => w'.cell? ⟨w.heap.size, 0, none⟩ = some (.int .i64 2) ∧ w'.cell? ⟨w.heap.size, 1, none⟩ = some (.int .i64 l) ∧ Below W1.heap.size W1 w')
      (first | go_keep | exact HS0 | exact ⟨hp0, hp1, hp2⟩ | exact ⟨hq0, hq1, hq2⟩ | exact ⟨hu0, hu1, hu2⟩ | exact ⟨hv0, hv1, hv2⟩)
      (first
        | (go_at_call 52; (with_reducible refine (CY9.out _ ?_).mono ?_); (first | assumption | simp [*]); rintro e wp ⟨rfl, hp0, hp1, hp2⟩)
        | (go_at_call 91; (with_reducible refine (CL9.out _ ?_).mono ?_); (first | assumption | simp [*]); rintro e wq ⟨rfl, hq0, hq1, hq2⟩)
        | (go_at_call 90; (with_reducible refine (CM9.out _ ?_).mono ?_); (first | assumption | simp [*]); rintro e wu ⟨rfl, hu0, hu1, hu2⟩)
        | (go_at_call 89; (with_reducible refine (CP9.out _ ?_).mono ?_); (first | assumption | simp [*]); rintro e wv ⟨rfl, hv0, hv1, hv2⟩))
    all_goals
      rename_i hlast
      have K := Lib.hid (HB0.out.trans (hlast.2.2.mono HB0.out.size))
      go_wp2_with fail
      go_ret
      exact ⟨by first | rfl | simp, K.out⟩
  · have hr : lnFirst 3 l x y = decide (0 < swF l x y) := by simp [lnFirst, firstS]
    rw [hr]
    obtain ⟨z, hz⟩ : ∃ z, swF l x y = z := ⟨_, rfl⟩
    rw [hz] at CF ⊢
    obtain ⟨b, hb⟩ : ∃ b, decide (0 < z) = b := ⟨_, rfl⟩
    rw [hb]
    clear hr hz Q HS0
    cases b
    all_goals
      go_enter Tryd.func61, Tryd.ntmps61
      go_wp2_with fail
      refine (CF.out _).mono ?_
      rintro e w2 ⟨rfl, hb2⟩
      have K := Lib.hid (HB0.out.trans (hb2.mono HB0.out.size))
      clear hb2
      go_wp2_with fail
      go_ret
      exact ⟨by first | rfl | simp, K.out⟩
  · have hr : lnFirst 4 l x y = (decide ((x : Int) - offZ l y < 10) == decide ((y : Int) - offZ l x < 12)) := by
      unfold lnFirst firstS swX swY
      rw [if_neg (by decide), if_neg (by decide), if_neg (by decide), if_pos rfl]
    rw [hr]
    obtain ⟨z1, hz1⟩ : ∃ z, offZ l y = z := ⟨_, rfl⟩
    obtain ⟨z2, hz2⟩ : ∃ z, offZ l x = z := ⟨_, rfl⟩
    rw [hz1] at CX hzx ⊢
    rw [hz2] at CY hzy ⊢
    have ew1 : IntKind.i64.wrap ((x : Int) - z1) = (x : Int) - z1 := by simp [IntKind.wrap, IntKind.bits, IntKind.signed]; omega
    have ew2 : IntKind.i64.wrap ((y : Int) - z2) = (y : Int) - z2 := by simp [IntKind.wrap, IntKind.bits, IntKind.signed]; omega
    obtain ⟨b1, hq1⟩ : ∃ b, decide ((x : Int) - z1 < 10) = b := ⟨_, rfl⟩
    obtain ⟨b2, hq2⟩ : ∃ b, decide ((y : Int) - z2 < 12) = b := ⟨_, rfl⟩
    rw [hq1, hq2]
    have CX9 := Lib.hid (fun W (h : W.cell? ⟨w.heap.size, 0, none⟩ = some (.int .i64 4) ∧ W.cell? ⟨w.heap.size, 1, none⟩ = some (.int .i64 l) ∧ Below W1.heap.size W1 W) => (CX.out W).mono (fun e w' hh => And.intro hh.1 (Q _ _ h hh.2)))
    have CY9 := Lib.hid (fun W (h : W.cell? ⟨w.heap.size, 0, none⟩ = some (.int .i64 4) ∧ W.cell? ⟨w.heap.size, 1, none⟩ = some (.int .i64 l) ∧ Below W1.heap.size W1 W) => (CY.out W).mono (fun e w' hh => And.intro hh.1 (Q _ _ h hh.2)))
    clear hr hz1 hz2 Q hcx1 hcx2 hcy1 hcy2
    cases b1
    all_goals cases b2
    all_goals
      go_enter Tryd.func61, Tryd.ntmps61
      go_wp2_with fail
      go_region_held3 (fun w' => w'.cell? ⟨w.heap.size, 0, none⟩ = some (.int .i64 4) ∧ w'.cell? ⟨w.heap.size, 1, none⟩ = some (.int .i64 l) ∧ Below W1.heap.size W1 w')
        (first | go_keep | exact HS0 | exact ⟨ha0, ha1, ha2⟩ | exact ⟨hb0, hb1, hb2⟩)
        (first
          | (go_at_call 52; (with_reducible refine (CX9.out _ ?_).mono ?_); (first | assumption | simp [*]); rintro e wa ⟨rfl, ha0, ha1, ha2⟩)
          | (go_at_call 52; (with_reducible refine (CY9.out _ ?_).mono ?_); (first | assumption | simp [*]); rintro e wb ⟨rfl, hb0, hb1, hb2⟩))
      all_goals
        rename_i hlast
        have K := Lib.hid (HB0.out.trans (hlast.2.2.mono HB0.out.size))
        go_wp2_with fail
        go_ret
        exact ⟨by first | rfl | simp, K.out⟩
  · have hr : lnFirst 5 l x y = (decide (0 < swF l x y) == decide (0 < swR l x y)) := by simp [lnFirst, firstS]
    rw [hr]
    obtain ⟨z1, hz1⟩ : ∃ z, swF l x y = z := ⟨_, rfl⟩
    obtain ⟨z2, hz2⟩ : ∃ z, swR l x y = z := ⟨_, rfl⟩
    rw [hz1] at CF ⊢
    rw [hz2] at CR ⊢
    obtain ⟨b1, hq1⟩ : ∃ b, decide (0 < z1) = b := ⟨_, rfl⟩
    obtain ⟨b2, hq2⟩ : ∃ b, decide (0 < z2) = b := ⟨_, rfl⟩
    rw [hq1, hq2]
    have ew : IntKind.i64.wrap (19 - (x : Int)) = 19 - (x : Int) := by simp [IntKind.wrap, IntKind.bits, IntKind.signed]; omega
    have CF9 := Lib.hid (fun W (h : W.cell? ⟨w.heap.size, 0, none⟩ = some (.int .i64 5) ∧ W.cell? ⟨w.heap.size, 1, none⟩ = some (.int .i64 l) ∧ Below W1.heap.size W1 W) => (CF.out W).mono (fun e w' hh => And.intro hh.1 (Q _ _ h hh.2)))
    have CR9 := Lib.hid (fun W (h : W.cell? ⟨w.heap.size, 0, none⟩ = some (.int .i64 5) ∧ W.cell? ⟨w.heap.size, 1, none⟩ = some (.int .i64 l) ∧ Below W1.heap.size W1 W) => (CR.out W).mono (fun e w' hh => And.intro hh.1 (Q _ _ h hh.2)))
    clear hr hz1 hz2 Q hcx1 hcx2 hcy1 hcy2
    cases b1
    all_goals cases b2
    all_goals
      go_enter Tryd.func61, Tryd.ntmps61
      go_wp2_with fail
      go_region_held3 (fun w' => w'.cell? ⟨w.heap.size, 0, none⟩ = some (.int .i64 5) ∧ w'.cell? ⟨w.heap.size, 1, none⟩ = some (.int .i64 l) ∧ Below W1.heap.size W1 w')
        (first | go_keep | exact HS0 | exact ⟨ha0, ha1, ha2⟩ | exact ⟨hb0, hb1, hb2⟩)
        (first
          | (go_at_call 88; (with_reducible refine (CF9.out _ ?_).mono ?_); (first | assumption | simp [*]); rintro e wa ⟨rfl, ha0, ha1, ha2⟩)
          | (go_at_call 88; (with_reducible refine (CR9.out _ ?_).mono ?_); (first | assumption | simp [*]); rintro e wb ⟨rfl, hb0, hb1, hb2⟩))
      all_goals
        rename_i hlast
        have K := Lib.hid (HB0.out.trans (hlast.2.2.mono HB0.out.size))
        go_wp2_with fail
        go_ret
        exact ⟨by first | rfl | simp, K.out⟩
  · have hr : lnFirst 6 l x y = firstB 6 cx y := by
      unfold lnFirst firstS firstB stripeB
      simp only [show ((20 : Int) - 1) = ((19 : Nat) : Int) from rfl, ← hcx1]
      simp
    rw [hr]
    have CP := Lib.hid (fun W => l9Part_any 6 cx y W (by omega) (by omega) (by omega) (by omega))
    change (if 0 < (if (x : Int) - offZ l y < ((19 : Nat) : Int) then (x : Int) - offZ l y else ((19 : Nat) : Int)) then (if (x : Int) - offZ l y < ((19 : Nat) : Int) then (x : Int) - offZ l y else ((19 : Nat) : Int)) else 0) = _ at hcx2
    obtain ⟨z, hz⟩ : ∃ z, offZ l y = z := ⟨_, rfl⟩
    rw [hz] at CX hzx hcx2
    have CL := Lib.hid (fun W => least_any 19 ((x : Int) - z) W)
    obtain ⟨mm, hmm⟩ : ∃ q, (if (x : Int) - z < ((19 : Nat) : Int) then (x : Int) - z else ((19 : Nat) : Int)) = q := ⟨_, rfl⟩
    rw [hmm] at hcx2
    change Hid (∀ W, Calls _ _ _ W fun e w' => e = .returned (.int .i64 (if (x : Int) - z < ((19 : Nat) : Int) then (x : Int) - z else ((19 : Nat) : Int))) ∧ W = w') at CL
    rw [hmm] at CL
    have CM := fun W => l1Most_any 0 mm W
    rw [hcx2] at CM
    have CM := Lib.hid CM
    obtain ⟨r, hr2⟩ : ∃ r, firstB 6 cx y = r := ⟨_, rfl⟩
    rw [hr2] at CP ⊢
    obtain ⟨vr, hvr⟩ : ∃ v : Int, (if r = true then (0 : Int) else 1) = v := ⟨_, rfl⟩
    rw [hvr] at CP ⊢
    clear hvr hr hr2 hz hmm hcx1 hcx2 hcy1 hcy2
    have CX9 := Lib.hid (fun W (h : W.cell? ⟨w.heap.size, 0, none⟩ = some (.int .i64 6) ∧ W.cell? ⟨w.heap.size, 1, none⟩ = some (.int .i64 l) ∧ Below W1.heap.size W1 W) => (CX.out W).mono (fun e w' hh => And.intro hh.1 (Q _ _ h hh.2)))
    have CP9 := Lib.hid (fun W (h : W.cell? ⟨w.heap.size, 0, none⟩ = some (.int .i64 6) ∧ W.cell? ⟨w.heap.size, 1, none⟩ = some (.int .i64 l) ∧ Below W1.heap.size W1 W) => (CP.out W).mono (fun e w' hh => And.intro hh.1 (Q _ _ h hh.2)))
    have CL9 := Lib.hid (fun W (h : W.cell? ⟨w.heap.size, 0, none⟩ = some (.int .i64 6) ∧ W.cell? ⟨w.heap.size, 1, none⟩ = some (.int .i64 l) ∧ Below W1.heap.size W1 W) => (CL.out W).mono (fun e w' hh => And.intro hh.1 (Q W w' h (by rw [← hh.2]; exact Below.refl _ _))))
    have CM9 := Lib.hid (fun W (h : W.cell? ⟨w.heap.size, 0, none⟩ = some (.int .i64 6) ∧ W.cell? ⟨w.heap.size, 1, none⟩ = some (.int .i64 l) ∧ Below W1.heap.size W1 W) => (CM.out W).mono (fun e w' hh => And.intro hh.1 (Q W w' h (by rw [← hh.2]; exact Below.refl _ _))))
    have ew : IntKind.i64.wrap ((x : Int) - z) = ((x : Int) - z) := by simp [IntKind.wrap, IntKind.bits, IntKind.signed]; omega
    clear Q
    go_enter Tryd.func61, Tryd.ntmps61
    go_wp2_with fail
    go_region_held3 (fun w' => w'.cell? ⟨w.heap.size, 0, none⟩ = some (.int .i64 6) ∧ w'.cell? ⟨w.heap.size, 1, none⟩ = some (.int .i64 l) ∧ Below W1.heap.size W1 w')
      (first | go_keep | exact HS0 | exact ⟨hp0, hp1, hp2⟩ | exact ⟨hq0, hq1, hq2⟩ | exact ⟨hu0, hu1, hu2⟩ | exact ⟨hv0, hv1, hv2⟩)
      (first
        | (go_at_call 52; (with_reducible refine (CX9.out _ ?_).mono ?_); (first | assumption | simp [*]); rintro e wp ⟨rfl, hp0, hp1, hp2⟩)
        | (go_at_call 91; (with_reducible refine (CL9.out _ ?_).mono ?_); (first | assumption | simp [*]); rintro e wq ⟨rfl, hq0, hq1, hq2⟩)
        | (go_at_call 90; (with_reducible refine (CM9.out _ ?_).mono ?_); (first | assumption | simp [*]); rintro e wu ⟨rfl, hu0, hu1, hu2⟩)
        | (go_at_call 89; (with_reducible refine (CP9.out _ ?_).mono ?_); (first | assumption | simp [*]); rintro e wv ⟨rfl, hv0, hv1, hv2⟩))
    all_goals
      rename_i hlast
      have K := Lib.hid (HB0.out.trans (hlast.2.2.mono HB0.out.size))
      go_wp2_with fail
      go_ret
      exact ⟨by first | rfl | simp, K.out⟩
  · have hr : lnFirst 7 l x y = firstB 7 x cy := by
      unfold lnFirst firstS firstB stripeB
      simp only [show ((24 : Int) - 1) = ((23 : Nat) : Int) from rfl, ← hcy1]
      simp
    rw [hr]
    have CP := Lib.hid (fun W => l9Part_any 7 x cy W (by omega) (by omega) (by omega) (by omega))
    change (if 0 < (if (y : Int) - offZ l x < ((23 : Nat) : Int) then (y : Int) - offZ l x else ((23 : Nat) : Int)) then (if (y : Int) - offZ l x < ((23 : Nat) : Int) then (y : Int) - offZ l x else ((23 : Nat) : Int)) else 0) = _ at hcy2
    obtain ⟨z, hz⟩ : ∃ z, offZ l x = z := ⟨_, rfl⟩
    rw [hz] at CY hzy hcy2
    have CL := Lib.hid (fun W => least_any 23 ((y : Int) - z) W)
    obtain ⟨mm, hmm⟩ : ∃ q, (if (y : Int) - z < ((23 : Nat) : Int) then (y : Int) - z else ((23 : Nat) : Int)) = q := ⟨_, rfl⟩
    rw [hmm] at hcy2
    change Hid (∀ W, Calls _ _ _ W fun e w' => e = .returned (.int .i64 (if (y : Int) - z < ((23 : Nat) : Int) then (y : Int) - z else ((23 : Nat) : Int))) ∧ W = w') at CL
    rw [hmm] at CL
    have CM := fun W => l1Most_any 0 mm W
    rw [hcy2] at CM
    have CM := Lib.hid CM
    obtain ⟨r, hr2⟩ : ∃ r, firstB 7 x cy = r := ⟨_, rfl⟩
    rw [hr2] at CP ⊢
    obtain ⟨vr, hvr⟩ : ∃ v : Int, (if r = true then (0 : Int) else 1) = v := ⟨_, rfl⟩
    rw [hvr] at CP ⊢
    clear hvr hr hr2 hz hmm hcx1 hcx2 hcy1 hcy2
    have CY9 := Lib.hid (fun W (h : W.cell? ⟨w.heap.size, 0, none⟩ = some (.int .i64 7) ∧ W.cell? ⟨w.heap.size, 1, none⟩ = some (.int .i64 l) ∧ Below W1.heap.size W1 W) => (CY.out W).mono (fun e w' hh => And.intro hh.1 (Q _ _ h hh.2)))
    have CP9 := Lib.hid (fun W (h : W.cell? ⟨w.heap.size, 0, none⟩ = some (.int .i64 7) ∧ W.cell? ⟨w.heap.size, 1, none⟩ = some (.int .i64 l) ∧ Below W1.heap.size W1 W) => (CP.out W).mono (fun e w' hh => And.intro hh.1 (Q _ _ h hh.2)))
    have CL9 := Lib.hid (fun W (h : W.cell? ⟨w.heap.size, 0, none⟩ = some (.int .i64 7) ∧ W.cell? ⟨w.heap.size, 1, none⟩ = some (.int .i64 l) ∧ Below W1.heap.size W1 W) => (CL.out W).mono (fun e w' hh => And.intro hh.1 (Q W w' h (by rw [← hh.2]; exact Below.refl _ _))))
    have CM9 := Lib.hid (fun W (h : W.cell? ⟨w.heap.size, 0, none⟩ = some (.int .i64 7) ∧ W.cell? ⟨w.heap.size, 1, none⟩ = some (.int .i64 l) ∧ Below W1.heap.size W1 W) => (CM.out W).mono (fun e w' hh => And.intro hh.1 (Q W w' h (by rw [← hh.2]; exact Below.refl _ _))))
    have ew : IntKind.i64.wrap ((y : Int) - z) = ((y : Int) - z) := by simp [IntKind.wrap, IntKind.bits, IntKind.signed]; omega
    clear Q
    go_enter Tryd.func61, Tryd.ntmps61
    go_wp2_with fail
    go_region_held3 (fun w' => w'.cell? ⟨w.heap.size, 0, none⟩ = some (.int .i64 7) ∧ w'.cell? ⟨w.heap.size, 1, none⟩ = some (.int .i64 l) ∧ Below W1.heap.size W1 w')
      (first | go_keep | exact HS0 | exact ⟨hp0, hp1, hp2⟩ | exact ⟨hq0, hq1, hq2⟩ | exact ⟨hu0, hu1, hu2⟩ | exact ⟨hv0, hv1, hv2⟩)
      (first
        | (go_at_call 52; (with_reducible refine (CY9.out _ ?_).mono ?_); (first | assumption | simp [*]); rintro e wp ⟨rfl, hp0, hp1, hp2⟩)
        | (go_at_call 91; (with_reducible refine (CL9.out _ ?_).mono ?_); (first | assumption | simp [*]); rintro e wq ⟨rfl, hq0, hq1, hq2⟩)
        | (go_at_call 90; (with_reducible refine (CM9.out _ ?_).mono ?_); (first | assumption | simp [*]); rintro e wu ⟨rfl, hu0, hu1, hu2⟩)
        | (go_at_call 89; (with_reducible refine (CP9.out _ ?_).mono ?_); (first | assumption | simp [*]); rintro e wv ⟨rfl, hv0, hv1, hv2⟩))
    all_goals
      rename_i hlast
      have K := Lib.hid (HB0.out.trans (hlast.2.2.mono HB0.out.size))
      go_wp2_with fail
      go_ret
      exact ⟨by first | rfl | simp, K.out⟩
end Go.Proofs.YtkhpgggaaldhhaaDoor
