/- Contracts: the program's fields: validity, tinctures, swapping, plain fields. -/
import Derived.Test.YtmogabnngphfgaaDoorFields2
namespace Go.Proofs.YtmogabnngphfgaaDoor
open Go.RowKit

theorem cset_o (w : World) (b i j : Nat) (v : Value) (h : i ≠ j) : (w.setCell ⟨b, i, none⟩ v).cell? ⟨b, j, none⟩ = w.cell? ⟨b, j, none⟩ :=
  World.cell?_setCell_other _ _ _ _ (fun e => h (Addr.mk.inj e).2.1)
theorem cset_b (w : World) (b c i j : Nat) (v : Value) (h : b ≠ c) : (w.setCell ⟨b, i, none⟩ v).cell? ⟨c, j, none⟩ = w.cell? ⟨c, j, none⟩ :=
  World.cell?_setCell_other _ _ _ _ (fun e => h (Addr.mk.inj e).1)
set_option maxHeartbeats 2000000 in
theorem validField_yes (d l f s : Int) (w : World) (h : FOk d l f s) :
    Calls Tryd.prog 11 #[.agg #[.int .i64 d, .int .i64 l, .int .i64 f, .int .i64 s]] w fun e w' => e = .returned (.bool true) ∧ Below w.heap.size w w' := by
  obtain ⟨hd, hl, hf, hs⟩ := h
  have c3 := fun W => isT_yes f W hf.1 hf.2
  rcases hs with ⟨rfl, rfl, rfl⟩ | ⟨h0, hs, hne⟩
  · clear hd hl hf
    go_enter Tryd.func11, Tryd.ntmps11
    go_wp2_with (go_at_call 28; refine (c3 _).mono ?_; rintro e w' ⟨rfl, rfl⟩)
    go_ret
    exact ⟨by simp, (Below.refl _ _).alloc (Nat.le_refl _) _⟩
  · have c4 := fun W => isT_yes s W hs.1 hs.2
    have e0 : (d == 0) = false := by rw [beq_eq_false_iff_ne]; exact h0
    have e1 : (s != f) = true := by rw [bne_iff_ne]; exact hne
    have e2 : decide (d < 0) = false := by simp; omega
    have e3 : decide (7 < d) = false := by simp; omega
    have e4 : decide (l < 0) = false := by simp; omega
    have e5 : decide (4 < l) = false := by simp; omega
    clear hd hl hf hs h0 hne
    go_enter Tryd.func11, Tryd.ntmps11
    go_wp2_with (first | (go_at_call 28; (with_reducible refine (c3 _).mono ?_); rintro e w' ⟨rfl, rfl⟩) | (go_at_call 28; (with_reducible refine (c4 _).mono ?_); rintro e w' ⟨rfl, rfl⟩))
    go_ret
    exact ⟨rfl, (Below.refl _ _).alloc (Nat.le_refl _) _⟩
set_option maxHeartbeats 4000000 in
theorem validField_no (d l f s : Int) (w : World) (h : ¬ FOk d l f s) :
    Calls Tryd.prog 11 #[.agg #[.int .i64 d, .int .i64 l, .int .i64 f, .int .i64 s]] w fun e w' => e = .returned (.bool false) ∧ Below w.heap.size w w' := by
  by_cases hf : 1 ≤ f ∧ f ≤ 9
  · have c3 := fun W => isT_yes f W hf.1 hf.2
    by_cases h0 : d = 0
    · have e0 : (d == 0) = true := by rw [beq_iff_eq]; exact h0
      have hls : ¬ (l = 0 ∧ s = 0) := fun e => h ⟨by omega, by omega, hf, .inl ⟨h0, e.1, e.2⟩⟩
      clear hf h h0
      go_enter Tryd.func11, Tryd.ntmps11
      go_wp2_with (go_at_call 28; refine (c3 _).mono ?_; rintro e w' ⟨rfl, rfl⟩)
      all_goals (go_ret; exact ⟨by first | rfl | simp | (simp; omega), (Below.refl _ _).alloc (Nat.le_refl _) _⟩)
    · have e0 : (d == 0) = false := by rw [beq_eq_false_iff_ne]; exact h0
      by_cases hd0 : d < 0
      · have e2 : decide (d < 0) = true := by simpa using hd0
        clear hf h h0 hd0
        go_enter Tryd.func11, Tryd.ntmps11
        go_wp2_with (go_at_call 28; refine (c3 _).mono ?_; rintro e w' ⟨rfl, rfl⟩)
        go_ret
        exact ⟨rfl, (Below.refl _ _).alloc (Nat.le_refl _) _⟩
      · have e2 : decide (d < 0) = false := by simp; omega
        by_cases hd7 : 7 < d
        · have e3 : decide (7 < d) = true := by simpa using hd7
          clear hf h h0 hd0 hd7
          go_enter Tryd.func11, Tryd.ntmps11
          go_wp2_with (go_at_call 28; refine (c3 _).mono ?_; rintro e w' ⟨rfl, rfl⟩)
          go_ret
          exact ⟨rfl, (Below.refl _ _).alloc (Nat.le_refl _) _⟩
        · have e3 : decide (7 < d) = false := by simp; omega
          by_cases hl0 : l < 0
          · have e4 : decide (l < 0) = true := by simpa using hl0
            clear hf h h0 hd0 hd7 hl0
            go_enter Tryd.func11, Tryd.ntmps11
            go_wp2_with (go_at_call 28; refine (c3 _).mono ?_; rintro e w' ⟨rfl, rfl⟩)
            go_ret
            exact ⟨rfl, (Below.refl _ _).alloc (Nat.le_refl _) _⟩
          · have e4 : decide (l < 0) = false := by simp; omega
            by_cases hl4 : 4 < l
            · have e5 : decide (4 < l) = true := by simpa using hl4
              clear hf h h0 hd0 hd7 hl0 hl4
              go_enter Tryd.func11, Tryd.ntmps11
              go_wp2_with (go_at_call 28; refine (c3 _).mono ?_; rintro e w' ⟨rfl, rfl⟩)
              go_ret
              exact ⟨rfl, (Below.refl _ _).alloc (Nat.le_refl _) _⟩
            · have e5 : decide (4 < l) = false := by simp; omega
              by_cases hs : 1 ≤ s ∧ s ≤ 9
              · have c4 := fun W => isT_yes s W hs.1 hs.2
                have hsf : s = f := by
                  rcases Decidable.em (s = f) with e | e
                  · exact e
                  · exact absurd ⟨by omega, by omega, hf, .inr ⟨h0, hs, e⟩⟩ h
                have e1 : (s != f) = false := by rw [hsf]; simp
                clear hf h h0 hd0 hd7 hl0 hl4 hs hsf
                go_enter Tryd.func11, Tryd.ntmps11
                go_wp2_with (first | (go_at_call 28; (with_reducible refine (c3 _).mono ?_); rintro e w' ⟨rfl, rfl⟩) | (go_at_call 28; (with_reducible refine (c4 _).mono ?_); rintro e w' ⟨rfl, rfl⟩))
                go_ret
                exact ⟨rfl, (Below.refl _ _).alloc (Nat.le_refl _) _⟩
              · have c4 := fun W => isT_no s W (by omega)
                clear hf h h0 hd0 hd7 hl0 hl4 hs
                go_enter Tryd.func11, Tryd.ntmps11
                go_wp2_with (first | (go_at_call 28; (with_reducible refine (c3 _).mono ?_); rintro e w' ⟨rfl, rfl⟩) | (go_at_call 28; (with_reducible refine (c4 _).mono ?_); rintro e w' ⟨rfl, rfl⟩))
                go_ret
                exact ⟨rfl, (Below.refl _ _).alloc (Nat.le_refl _) _⟩
  · have c3 := fun W => isT_no f W (by omega)
    clear hf h
    go_enter Tryd.func11, Tryd.ntmps11
    go_wp2_with (go_at_call 28; refine (c3 _).mono ?_; rintro e w' ⟨rfl, rfl⟩)
    go_ret
    exact ⟨rfl, (Below.refl _ _).alloc (Nat.le_refl _) _⟩
/-- Valid or not: one contract. -/
theorem validField_impl (d l f s : Int) (w : World) (r : Bool) (hr : decide (FOk d l f s) = r) :
    Calls Tryd.prog 11 #[.agg #[.int .i64 d, .int .i64 l, .int .i64 f, .int .i64 s]] w fun e w' => e = .returned (.bool r) ∧ Below w.heap.size w w' := by
  cases r
  · exact validField_no d l f s w (of_decide_eq_false hr)
  · exact validField_yes d l f s w (of_decide_eq_true hr)

theorem fieldTinctures_impl (d l f s : Int) (w : World) (h : FOk d l f s) :
    Calls Tryd.prog 33 #[.agg #[.int .i64 d, .int .i64 l, .int .i64 f, .int .i64 s]] w (Ans w (tincL d f s) true) := by
  have c := fun W => validField_yes d l f s W h
  clear h
  by_cases h0 : d = 0
  · rw [tincL_0 h0]
    have e0 : (d == 0) = true := by rw [beq_iff_eq]; exact h0
    clear h0
    go_enter Tryd.func33, Tryd.ntmps33
    go_wp2_with fail
    refine (c _).mono ?_
    rintro e w1 ⟨rfl, hb⟩
    obtain ⟨hc, hf⟩ := bcell hb
    have B := Lib.hid (((Below.refl _ w).alloc (Nat.le_refl _) _).trans (hb.mono (by simp)))
    clear hb c
    go_wp2_with fail
    go_ret2
    exact ans_at true [f] (by simp) B.out rfl
  · rw [tincL_1 h0]
    have e0 : (d == 0) = false := by rw [beq_eq_false_iff_ne]; exact h0
    clear h0
    go_enter Tryd.func33, Tryd.ntmps33
    go_wp2_with fail
    refine (c _).mono ?_
    rintro e w1 ⟨rfl, hb⟩
    obtain ⟨hc, hf⟩ := bcell hb
    have B := Lib.hid (((Below.refl _ w).alloc (Nat.le_refl _) _).trans (hb.mono (by simp)))
    clear hb c
    go_wp2_with fail
    go_ret2
    exact ans_at true [f, s] (by simp) B.out rfl
theorem fieldTinctures_impl_no (d l f s : Int) (w : World) (h : ¬ FOk d l f s) :
    Calls Tryd.prog 33 #[.agg #[.int .i64 d, .int .i64 l, .int .i64 f, .int .i64 s]] w (Ans w [] false) := by
  have c := fun W => validField_no d l f s W h
  clear h
  go_enter Tryd.func33, Tryd.ntmps33
  go_wp2_with fail
  refine (c _).mono ?_
  rintro e w1 ⟨rfl, hb⟩
  have B := Lib.hid (((Below.refl _ w).alloc (Nat.le_refl _) _).trans (hb.mono (by simp)))
  clear hb c
  go_wp2_with fail
  go_ret2
  exact ans_below (ans_nil _ false) B.out
set_option maxHeartbeats 1000000 in
theorem swap_impl0 (d l f s : Int) (w : World) (h : FOk d l f s) (h0 : d = 0) :
    Calls Tryd.prog 13 #[.agg #[.int .i64 d, .int .i64 l, .int .i64 f, .int .i64 s]] w (AnsF w d l f s true) := by
  have c := fun W => validField_yes d l f s W h
  have e0 : (d != 0) = false := by rw [h0]; simp
  clear h0 h
  go_enter Tryd.func13, Tryd.ntmps13
  go_wp2_with fail
  refine (c _).mono ?_
  rintro e w1 ⟨rfl, hb⟩
  obtain ⟨hc, hf⟩ := bcell hb
  have hz := hb.size
  simp only [World.size_alloc] at hz
  have B := Lib.hid (box2 hb)
  clear hb c
  go_wp2_with fail
  exact bodyPost_ret (v := .tuple #[.agg #[.int .i64 d, .int .i64 l, .int .i64 f, .int .i64 s], .bool true]) (by simp [results, Tryd.results13, go_sem, hc]) rfl ⟨rfl, (((B.out.setCell (by simp) _).setCell (by simp) _).setCell (by simp) _).setCell (by simp) _⟩
set_option maxHeartbeats 2000000 in
theorem swap_impl1 (d l f s : Int) (w : World) (h : FOk d l f s) (h0 : d ≠ 0) :
    Calls Tryd.prog 13 #[.agg #[.int .i64 d, .int .i64 l, .int .i64 f, .int .i64 s]] w (AnsF w d l s f true) := by
  have c := fun W => validField_yes d l f s W h
  have e0 : (d != 0) = true := by rw [bne_iff_ne]; exact h0
  clear h0 h
  go_enter Tryd.func13, Tryd.ntmps13
  go_wp2_with fail
  refine (c _).mono ?_
  rintro e w1 ⟨rfl, hb⟩
  obtain ⟨hc, hf⟩ := bcell hb
  have hz := hb.size
  simp only [World.size_alloc] at hz
  have B := Lib.hid (box2 hb)
  have g0 : w1.cell? ⟨w.heap.size, 0, none⟩ = some (.int .i64 d) := by rw [hc _ _ (by simp; omega)]; simp [go_sem]
  have g1 : w1.cell? ⟨w.heap.size, 1, none⟩ = some (.int .i64 l) := by rw [hc _ _ (by simp; omega)]; simp [go_sem]
  have g2 : w1.cell? ⟨w.heap.size, 2, none⟩ = some (.int .i64 f) := by rw [hc _ _ (by simp; omega)]; simp [go_sem]
  have g3 : w1.cell? ⟨w.heap.size, 3, none⟩ = some (.int .i64 s) := by rw [hc _ _ (by simp; omega)]; simp [go_sem]
  have k3 : (w1.setCell ⟨w.heap.size, 2, none⟩ (.int .i64 s)).cell? ⟨w.heap.size, 3, none⟩ = some (.int .i64 s) := (cset_o _ _ _ _ _ (by decide)).trans g3
  have m0 : ((w1.setCell ⟨w.heap.size, 2, none⟩ (.int .i64 s)).setCell ⟨w.heap.size, 3, none⟩ (.int .i64 f)).cell? ⟨w.heap.size, 0, none⟩ = some (.int .i64 d) := (cset_o _ _ _ _ _ (by decide)).trans ((cset_o _ _ _ _ _ (by decide)).trans g0)
  have m1 : ((w1.setCell ⟨w.heap.size, 2, none⟩ (.int .i64 s)).setCell ⟨w.heap.size, 3, none⟩ (.int .i64 f)).cell? ⟨w.heap.size, 1, none⟩ = some (.int .i64 l) := (cset_o _ _ _ _ _ (by decide)).trans ((cset_o _ _ _ _ _ (by decide)).trans g1)
  have m2 : ((w1.setCell ⟨w.heap.size, 2, none⟩ (.int .i64 s)).setCell ⟨w.heap.size, 3, none⟩ (.int .i64 f)).cell? ⟨w.heap.size, 2, none⟩ = some (.int .i64 s) := (cset_o _ _ _ _ _ (by decide)).trans (World.cell?_setCell_same _ _ _ g2)
  have m3 : ((w1.setCell ⟨w.heap.size, 2, none⟩ (.int .i64 s)).setCell ⟨w.heap.size, 3, none⟩ (.int .i64 f)).cell? ⟨w.heap.size, 3, none⟩ = some (.int .i64 f) := World.cell?_setCell_same _ _ _ k3
  have rr : ∀ o, ((w1.setCell ⟨w.heap.size, 2, none⟩ (.int .i64 s)).setCell ⟨w.heap.size, 3, none⟩ (.int .i64 f)).cell? ⟨w.heap.size + 1, o, none⟩ = w1.cell? ⟨w.heap.size + 1, o, none⟩ := fun o => (cset_b _ _ _ _ _ _ (by omega)).trans (cset_b _ _ _ _ _ _ (by omega))
  clear hb c
  go_wp2_with fail
  exact bodyPost_ret (v := .tuple #[.agg #[.int .i64 d, .int .i64 l, .int .i64 s, .int .i64 f], .bool true]) (by simp [results, Tryd.results13, go_sem, hc, rr]) rfl ⟨rfl, (((((B.out.setCell (by simp) _).setCell (by simp) _).setCell (by simp) _).setCell (by simp) _).setCell (by simp) _).setCell (by simp) _⟩
set_option maxHeartbeats 1000000 in
theorem swap_impl_no (d l f s : Int) (w : World) (h : ¬ FOk d l f s) :
    Calls Tryd.prog 13 #[.agg #[.int .i64 d, .int .i64 l, .int .i64 f, .int .i64 s]] w (AnsF w 0 0 0 0 false) := by
  have c := fun W => validField_no d l f s W h
  clear h
  go_enter Tryd.func13, Tryd.ntmps13
  go_wp2_with fail
  refine (c _).mono ?_
  rintro e w1 ⟨rfl, hb⟩
  obtain ⟨hc, hf⟩ := bcell hb
  have hz := hb.size
  simp only [World.size_alloc] at hz
  have B := Lib.hid (box2 hb)
  clear hb c
  go_wp2_with fail
  exact bodyPost_ret (v := .tuple #[.agg #[.int .i64 0, .int .i64 0, .int .i64 0, .int .i64 0], .bool false]) (by simp [results, Tryd.results13, go_sem, hc]) rfl ⟨rfl, (((B.out.setCell (by simp) _).setCell (by simp) _).setCell (by simp) _).setCell (by simp) _⟩
end Go.Proofs.YtmogabnngphfgaaDoor
