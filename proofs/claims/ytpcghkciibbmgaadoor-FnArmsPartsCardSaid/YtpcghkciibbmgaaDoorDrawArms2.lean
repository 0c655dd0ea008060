/- Contract: the draw of any arms. -/
import Derived.Test.YtpcghkciibbmgaaDoorDrawArms
namespace Go.Proofs.YtpcghkciibbmgaaDoor
open Go.RowKit

set_option maxRecDepth 100000 in
set_option maxHeartbeats 20000000 in
theorem anyArms_any (B p : Nat) (x : Option Addr) (n cap M : Nat) (w : World) (h : IsCur w B p x n cap M) (hM : M ≤ 700000) (hn : n ≤ 65536) :
    Calls Tryd.prog 24 #[.pointer (some ⟨p, 0, none⟩)] w (DrewArms w B p x n cap (M + 200)) := by
  have hpw := h.lt
  have HC0 := Lib.hid (h.alloc (.cells #[.int .i64 0, .int .i64 0, .int .i64 0, .int .i64 0, .int .i64 0, .int .i64 0, .int .i64 0, .int .i64 0, .int .i64 0, .int .i64 0, .int .i64 0, .int .i64 0, .int .i64 0, .int .i64 0, .int .i64 0] 29 (0, 0)))
  have XR0 := Lib.hid (BoxF.new w [.int .i64 0, .int .i64 0, .int .i64 0, .int .i64 0, .int .i64 0, .int .i64 0, .int .i64 0, .int .i64 0, .int .i64 0, .int .i64 0, .int .i64 0, .int .i64 0, .int .i64 0, .int .i64 0, .int .i64 0] 29)
  have G0 := Lib.hid (World.grownBy_alloc w (.cells #[.int .i64 0, .int .i64 0, .int .i64 0, .int .i64 0, .int .i64 0, .int .i64 0, .int .i64 0, .int .i64 0, .int .i64 0, .int .i64 0, .int .i64 0, .int .i64 0, .int .i64 0, .int .i64 0, .int .i64 0] 29 (0, 0)) (some p))
  obtain ⟨R, hRe⟩ : ∃ R, w.heap.size = R := ⟨_, rfl⟩
  have hR : w.heap.size ≤ R := by omega
  rw [hRe] at XR0
  clear h
  go_enter Tryd.func24, Tryd.ntmps24
  go_wp2_with fail
  refine (arms_any B p x n cap _ _ HC0.out (by omega) hn).mono ?_
  rintro e w1 ⟨⟨d, l, f, s, o, ln, tn, c, k, a, t, c', k', a', t', rfl⟩, hc, hg⟩
  have XA1 := BoxF.new w1 [.int .i64 d, .int .i64 l, .int .i64 f, .int .i64 s, .int .i64 o, .int .i64 ln, .int .i64 tn, .int .i64 c, .int .i64 k, .int .i64 a, .int .i64 t, .int .i64 c', .int .i64 k', .int .i64 a', .int .i64 t'] 29
  have HC1 := Lib.hid (hc.alloc (.cells #[.int .i64 d, .int .i64 l, .int .i64 f, .int .i64 s, .int .i64 o, .int .i64 ln, .int .i64 tn, .int .i64 c, .int .i64 k, .int .i64 a, .int .i64 t, .int .i64 c', .int .i64 k', .int .i64 a', .int .i64 t'] 29 (0, 0)))
  have XR1 := Lib.hid ((XR0.out.kept hg (by first | (simp; done) | (simp; omega))).alloc (.cells #[.int .i64 d, .int .i64 l, .int .i64 f, .int .i64 s, .int .i64 o, .int .i64 ln, .int .i64 tn, .int .i64 c, .int .i64 k, .int .i64 a, .int .i64 t, .int .i64 c', .int .i64 k', .int .i64 a', .int .i64 t'] 29 (0, 0)))
  have G1 := Lib.hid ((G0.out.trans hg).trans (World.grownBy_alloc w1 (.cells #[.int .i64 d, .int .i64 l, .int .i64 f, .int .i64 s, .int .i64 o, .int .i64 ln, .int .i64 tn, .int .i64 c, .int .i64 k, .int .i64 a, .int .i64 t, .int .i64 c', .int .i64 k', .int .i64 a', .int .i64 t'] 29 (0, 0)) (some p)))
  have hz := hg.size
  have hrl := XR0.out.lt
  clear hc hg HC0 XR0 G0
  go_wp2_with fail
  obtain ⟨D, hDe⟩ : ∃ D, w1.heap.size = D := ⟨_, rfl⟩
  have hD : w.heap.size ≤ D := by omega
  have hRD : R ≠ D := by omega
  rw [hDe] at XA1 ⊢
  have XA1 := Lib.hid XA1
  clear hz hrl hDe
  generalize w1.alloc (.cells #[.int .i64 d, .int .i64 l, .int .i64 f, .int .i64 s, .int .i64 o, .int .i64 ln, .int .i64 tn, .int .i64 c, .int .i64 k, .int .i64 a, .int .i64 t, .int .i64 c', .int .i64 k', .int .i64 a', .int .i64 t'] 29 (0, 0)) = W1 at *
  with_reducible refine (pick_any B p x n cap _ _ HC1.out (by omega) hn 24 (by omega) (by omega)).mono ?_
  rintro e w2 ⟨⟨r, rfl, hr0, hr1⟩, hc, hg⟩
  have HC2 := Lib.hid hc
  have XA2 := Lib.hid (XA1.out.kept hg (by first | (simp; done) | (simp; omega)))
  have XR2 := Lib.hid (XR1.out.kept hg (by first | (simp; done) | (simp; omega)))
  have G2 := Lib.hid (G1.out.trans hg)
  clear hc hg HC1 XA1 XR1 G1
  by_cases e0 : r = 0
  · have t0 : (r == 0) = true := by rw [beq_iff_eq]; exact e0
    clear e0 hr0 hr1
    go_wp2_with fail
    with_reducible refine (anyField_any B p x n cap _ _ HC2.out (by omega) hn).mono ?_
    rintro e w3 ⟨⟨y0, y1, y2, y3, rfl⟩, hc, hg⟩
    have HC3 := Lib.hid hc
    have XA3 := Lib.hid (XA2.out.kept hg (by first | (simp; done) | (simp; omega)))
    have XR3 := Lib.hid (XR2.out.kept hg (by first | (simp; done) | (simp; omega)))
    have G3 := Lib.hid (G2.out.trans hg)
    clear hc hg HC2 XA2 XR2 G2
    have b_ := XA3.out
    obtain ⟨m0, m1, m2, m3, m4, m5, m6, m7, m8, m9, m10, m11, m12, m13, m14, mf⟩ := b_.fifteen
    clear b_
    have gs : w3.grownBy ((((w3.setCell ⟨D, 0, none⟩ (.int .i64 y0)).setCell ⟨D, 1, none⟩ (.int .i64 y1)).setCell ⟨D, 2, none⟩ (.int .i64 y2)).setCell ⟨D, 3, none⟩ (.int .i64 y3)) (some D) := sets_grown [.int .i64 y0, .int .i64 y1, .int .i64 y2, .int .i64 y3] 0 w3
    have a_ : BoxF ((((w3.setCell ⟨D, 0, none⟩ (.int .i64 y0)).setCell ⟨D, 1, none⟩ (.int .i64 y1)).setCell ⟨D, 2, none⟩ (.int .i64 y2)).setCell ⟨D, 3, none⟩ (.int .i64 y3)) D [.int .i64 y0, .int .i64 y1, .int .i64 y2, .int .i64 y3, .int .i64 o, .int .i64 ln, .int .i64 tn, .int .i64 c, .int .i64 k, .int .i64 a, .int .i64 t, .int .i64 c', .int .i64 k', .int .i64 a', .int .i64 t'] 29 := sets_box [.int .i64 y0, .int .i64 y1, .int .i64 y2, .int .i64 y3] 0 XA3.out
    have r_ : BoxF ((((w3.setCell ⟨D, 0, none⟩ (.int .i64 y0)).setCell ⟨D, 1, none⟩ (.int .i64 y1)).setCell ⟨D, 2, none⟩ (.int .i64 y2)).setCell ⟨D, 3, none⟩ (.int .i64 y3)) R [.int .i64 0, .int .i64 0, .int .i64 0, .int .i64 0, .int .i64 0, .int .i64 0, .int .i64 0, .int .i64 0, .int .i64 0, .int .i64 0, .int .i64 0, .int .i64 0, .int .i64 0, .int .i64 0, .int .i64 0] 29 := XR3.out.kept gs (by first | (simp; done) | (simp; omega))
    have XR4 := Lib.hid r_
    have HC4 := Lib.hid (HC3.out.kept gs (fun k hk => by cases hk; omega))
    have G4 := Lib.hid (grownBy_own G3.out gs (fun k hk => by cases hk; omega))
    have ra_ := a_.range
    have t_ := r_.ther (n := 15) rfl
    clear a_ r_ gs HC3 XA3 XR3 G3
    go_wp2_with (first | (with_reducible refine isList ?_; refine ld15 3 D [.int .i64 y0, .int .i64 y1, .int .i64 y2, .int .i64 y3, .int .i64 o, .int .i64 ln, .int .i64 tn, .int .i64 c, .int .i64 k, .int .i64 a, .int .i64 t, .int .i64 c', .int .i64 k', .int .i64 a', .int .i64 t'] rfl rfl rfl rfl ?_ ?_; exact ra_) | (with_reducible refine isList ?_; (set_option maxRecDepth 100000 in refine st15 2 41 R [.int .i64 y0, .int .i64 y1, .int .i64 y2, .int .i64 y3, .int .i64 o, .int .i64 ln, .int .i64 tn, .int .i64 c, .int .i64 k, .int .i64 a, .int .i64 t, .int .i64 c', .int .i64 k', .int .i64 a', .int .i64 t'] rfl rfl rfl rfl rfl ?_ ?_ ?_); exact t_; simp [Value.oneCell']))
    clear m0 m1 m2 m3 m4 m5 m6 m7 m8 m9 m10 m11 m12 m13 m14 mf ra_ t_
    generalize ((((w3.setCell ⟨D, 0, none⟩ (.int .i64 y0)).setCell ⟨D, 1, none⟩ (.int .i64 y1)).setCell ⟨D, 2, none⟩ (.int .i64 y2)).setCell ⟨D, 3, none⟩ (.int .i64 y3)) = W4 at *
    obtain ⟨WE, hWE⟩ : ∃ X, X = W4.setCells R 0 [.int .i64 y0, .int .i64 y1, .int .i64 y2, .int .i64 y3, .int .i64 o, .int .i64 ln, .int .i64 tn, .int .i64 c, .int .i64 k, .int .i64 a, .int .i64 t, .int .i64 c', .int .i64 k', .int .i64 a', .int .i64 t'] := ⟨_, rfl⟩
    have BR : BoxF WE R [.int .i64 y0, .int .i64 y1, .int .i64 y2, .int .i64 y3, .int .i64 o, .int .i64 ln, .int .i64 tn, .int .i64 c, .int .i64 k, .int .i64 a, .int .i64 t, .int .i64 c', .int .i64 k', .int .i64 a', .int .i64 t'] 29 := by rw [hWE]; exact BoxF.setAll (vs := [.int .i64 y0, .int .i64 y1, .int .i64 y2, .int .i64 y3, .int .i64 o, .int .i64 ln, .int .i64 tn, .int .i64 c, .int .i64 k, .int .i64 a, .int .i64 t, .int .i64 c', .int .i64 k', .int .i64 a', .int .i64 t']) XR4.out
    have g_ : W4.grownBy WE (some R) := by rw [hWE]; exact setc_grown W4 R [.int .i64 y0, .int .i64 y1, .int .i64 y2, .int .i64 y3, .int .i64 o, .int .i64 ln, .int .i64 tn, .int .i64 c, .int .i64 k, .int .i64 a, .int .i64 t, .int .i64 c', .int .i64 k', .int .i64 a', .int .i64 t']
    have HCe := (HC4.out.mono (M' := M + 200) (by omega)).kept g_ (fun k hk => by cases hk; omega)
    have Ge := grownBy_own G4.out g_ (fun k hk => by cases hk; omega)
    rw [← hWE]
    clear g_ hWE
    obtain ⟨z0, z1, z2, z3, z4, z5, z6, z7, z8, z9, z10, z11, z12, z13, z14, zf⟩ := BR.fifteen
    exact bodyPost_ret (v := .agg #[.int .i64 y0, .int .i64 y1, .int .i64 y2, .int .i64 y3, .int .i64 o, .int .i64 ln, .int .i64 tn, .int .i64 c, .int .i64 k, .int .i64 a, .int .i64 t, .int .i64 c', .int .i64 k', .int .i64 a', .int .i64 t']) (by simp [results, Tryd.results24, go_sem, z0, z1, z2, z3, z4, z5, z6, z7, z8, z9, z10, z11, z12, z13, z14]) rfl ⟨⟨_, _, _, _, _, _, _, _, _, _, _, _, _, _, _, rfl⟩, HCe, Ge⟩
  · have t0 : (r == 0) = false := by rw [beq_eq_false_iff_ne]; exact e0
    by_cases e1 : r = 1
    · have t1 : (r == 1) = true := by rw [beq_iff_eq]; exact e1
      clear e0 e1 hr0 hr1
      go_wp2_with fail
      with_reducible refine (among_p B p x n cap _ _ (HC2.out.alloc _) (by omega) hn w2.heap.size 4 4 (fun _ => True) (by omega) (by omega) (numRowP_alloc w2 #[.int .i64 (-1), .int .i64 (8), .int .i64 (0), .int .i64 (7)] 3 (fun _ => True) 4 rfl (by simp [isNumP])) (by have := HC2.out.lt; omega) (by rw [alloc_size]; omega)).mono ?_
      rintro e w3 ⟨⟨y, rfl, _⟩, hc, hg⟩
      have HC3 := Lib.hid hc
      have XA3 := Lib.hid ((XA2.out.alloc _).kept hg (by first | (simp; done) | (simp; omega)))
      have XR3 := Lib.hid ((XR2.out.alloc _).kept hg (by first | (simp; done) | (simp; omega)))
      have G3 := Lib.hid (G2.out.trans ((World.grownBy_alloc w2 _ _).trans hg))
      clear hc hg HC2 XA2 XR2 G2
      have b_ := XA3.out
      obtain ⟨m0, m1, m2, m3, m4, m5, m6, m7, m8, m9, m10, m11, m12, m13, m14, mf⟩ := b_.fifteen
      clear b_
      have gs : w3.grownBy (w3.setCell ⟨D, 4, none⟩ (.int .i64 y)) (some D) := sets_grown [.int .i64 y] 4 w3
      have a_ : BoxF (w3.setCell ⟨D, 4, none⟩ (.int .i64 y)) D [.int .i64 d, .int .i64 l, .int .i64 f, .int .i64 s, .int .i64 y, .int .i64 ln, .int .i64 tn, .int .i64 c, .int .i64 k, .int .i64 a, .int .i64 t, .int .i64 c', .int .i64 k', .int .i64 a', .int .i64 t'] 29 := sets_box [.int .i64 y] 4 XA3.out
      have r_ : BoxF (w3.setCell ⟨D, 4, none⟩ (.int .i64 y)) R [.int .i64 0, .int .i64 0, .int .i64 0, .int .i64 0, .int .i64 0, .int .i64 0, .int .i64 0, .int .i64 0, .int .i64 0, .int .i64 0, .int .i64 0, .int .i64 0, .int .i64 0, .int .i64 0, .int .i64 0] 29 := XR3.out.kept gs (by first | (simp; done) | (simp; omega))
      have XR4 := Lib.hid r_
      have HC4 := Lib.hid (HC3.out.kept gs (fun k hk => by cases hk; omega))
      have G4 := Lib.hid (grownBy_own G3.out gs (fun k hk => by cases hk; omega))
      have ra_ := a_.range
      have t_ := r_.ther (n := 15) rfl
      clear a_ r_ gs HC3 XA3 XR3 G3
      go_wp2_with (first | (with_reducible refine isList ?_; refine ld15 3 D [.int .i64 d, .int .i64 l, .int .i64 f, .int .i64 s, .int .i64 y, .int .i64 ln, .int .i64 tn, .int .i64 c, .int .i64 k, .int .i64 a, .int .i64 t, .int .i64 c', .int .i64 k', .int .i64 a', .int .i64 t'] rfl rfl rfl rfl ?_ ?_; exact ra_) | (with_reducible refine isList ?_; (set_option maxRecDepth 100000 in refine st15 2 41 R [.int .i64 d, .int .i64 l, .int .i64 f, .int .i64 s, .int .i64 y, .int .i64 ln, .int .i64 tn, .int .i64 c, .int .i64 k, .int .i64 a, .int .i64 t, .int .i64 c', .int .i64 k', .int .i64 a', .int .i64 t'] rfl rfl rfl rfl rfl ?_ ?_ ?_); exact t_; simp [Value.oneCell']))
      clear m0 m1 m2 m3 m4 m5 m6 m7 m8 m9 m10 m11 m12 m13 m14 mf ra_ t_
      generalize (w3.setCell ⟨D, 4, none⟩ (.int .i64 y)) = W4 at *
      obtain ⟨WE, hWE⟩ : ∃ X, X = W4.setCells R 0 [.int .i64 d, .int .i64 l, .int .i64 f, .int .i64 s, .int .i64 y, .int .i64 ln, .int .i64 tn, .int .i64 c, .int .i64 k, .int .i64 a, .int .i64 t, .int .i64 c', .int .i64 k', .int .i64 a', .int .i64 t'] := ⟨_, rfl⟩
      have BR : BoxF WE R [.int .i64 d, .int .i64 l, .int .i64 f, .int .i64 s, .int .i64 y, .int .i64 ln, .int .i64 tn, .int .i64 c, .int .i64 k, .int .i64 a, .int .i64 t, .int .i64 c', .int .i64 k', .int .i64 a', .int .i64 t'] 29 := by rw [hWE]; exact BoxF.setAll (vs := [.int .i64 d, .int .i64 l, .int .i64 f, .int .i64 s, .int .i64 y, .int .i64 ln, .int .i64 tn, .int .i64 c, .int .i64 k, .int .i64 a, .int .i64 t, .int .i64 c', .int .i64 k', .int .i64 a', .int .i64 t']) XR4.out
      have g_ : W4.grownBy WE (some R) := by rw [hWE]; exact setc_grown W4 R [.int .i64 d, .int .i64 l, .int .i64 f, .int .i64 s, .int .i64 y, .int .i64 ln, .int .i64 tn, .int .i64 c, .int .i64 k, .int .i64 a, .int .i64 t, .int .i64 c', .int .i64 k', .int .i64 a', .int .i64 t']
      have HCe := (HC4.out.mono (M' := M + 200) (by omega)).kept g_ (fun k hk => by cases hk; omega)
      have Ge := grownBy_own G4.out g_ (fun k hk => by cases hk; omega)
      rw [← hWE]
      clear g_ hWE
      obtain ⟨z0, z1, z2, z3, z4, z5, z6, z7, z8, z9, z10, z11, z12, z13, z14, zf⟩ := BR.fifteen
      exact bodyPost_ret (v := .agg #[.int .i64 d, .int .i64 l, .int .i64 f, .int .i64 s, .int .i64 y, .int .i64 ln, .int .i64 tn, .int .i64 c, .int .i64 k, .int .i64 a, .int .i64 t, .int .i64 c', .int .i64 k', .int .i64 a', .int .i64 t']) (by simp [results, Tryd.results24, go_sem, z0, z1, z2, z3, z4, z5, z6, z7, z8, z9, z10, z11, z12, z13, z14]) rfl ⟨⟨_, _, _, _, _, _, _, _, _, _, _, _, _, _, _, rfl⟩, HCe, Ge⟩
    · have t1 : (r == 1) = false := by rw [beq_eq_false_iff_ne]; exact e1
      by_cases e2 : r = 2
      · have t2 : (r == 2) = true := by rw [beq_iff_eq]; exact e2
        clear e0 e1 e2 hr0 hr1
        go_wp2_with fail
        with_reducible refine (among_p B p x n cap _ _ (HC2.out.alloc _) (by omega) hn w2.heap.size 3 3 (fun _ => True) (by omega) (by omega) (numRowP_alloc w2 #[.int .i64 (-1), .int .i64 (5), .int .i64 (1)] 3 (fun _ => True) 3 rfl (by simp [isNumP])) (by have := HC2.out.lt; omega) (by rw [alloc_size]; omega)).mono ?_
        rintro e w3 ⟨⟨y, rfl, _⟩, hc, hg⟩
        have HC3 := Lib.hid hc
        have XA3 := Lib.hid ((XA2.out.alloc _).kept hg (by first | (simp; done) | (simp; omega)))
        have XR3 := Lib.hid ((XR2.out.alloc _).kept hg (by first | (simp; done) | (simp; omega)))
        have G3 := Lib.hid (G2.out.trans ((World.grownBy_alloc w2 _ _).trans hg))
        clear hc hg HC2 XA2 XR2 G2
        have b_ := XA3.out
        obtain ⟨m0, m1, m2, m3, m4, m5, m6, m7, m8, m9, m10, m11, m12, m13, m14, mf⟩ := b_.fifteen
        clear b_
        have gs : w3.grownBy (w3.setCell ⟨D, 5, none⟩ (.int .i64 y)) (some D) := sets_grown [.int .i64 y] 5 w3
        have a_ : BoxF (w3.setCell ⟨D, 5, none⟩ (.int .i64 y)) D [.int .i64 d, .int .i64 l, .int .i64 f, .int .i64 s, .int .i64 o, .int .i64 y, .int .i64 tn, .int .i64 c, .int .i64 k, .int .i64 a, .int .i64 t, .int .i64 c', .int .i64 k', .int .i64 a', .int .i64 t'] 29 := sets_box [.int .i64 y] 5 XA3.out
        have r_ : BoxF (w3.setCell ⟨D, 5, none⟩ (.int .i64 y)) R [.int .i64 0, .int .i64 0, .int .i64 0, .int .i64 0, .int .i64 0, .int .i64 0, .int .i64 0, .int .i64 0, .int .i64 0, .int .i64 0, .int .i64 0, .int .i64 0, .int .i64 0, .int .i64 0, .int .i64 0] 29 := XR3.out.kept gs (by first | (simp; done) | (simp; omega))
        have XR4 := Lib.hid r_
        have HC4 := Lib.hid (HC3.out.kept gs (fun k hk => by cases hk; omega))
        have G4 := Lib.hid (grownBy_own G3.out gs (fun k hk => by cases hk; omega))
        have ra_ := a_.range
        have t_ := r_.ther (n := 15) rfl
        clear a_ r_ gs HC3 XA3 XR3 G3
        go_wp2_with (first | (with_reducible refine isList ?_; refine ld15 3 D [.int .i64 d, .int .i64 l, .int .i64 f, .int .i64 s, .int .i64 o, .int .i64 y, .int .i64 tn, .int .i64 c, .int .i64 k, .int .i64 a, .int .i64 t, .int .i64 c', .int .i64 k', .int .i64 a', .int .i64 t'] rfl rfl rfl rfl ?_ ?_; exact ra_) | (with_reducible refine isList ?_; (set_option maxRecDepth 100000 in refine st15 2 41 R [.int .i64 d, .int .i64 l, .int .i64 f, .int .i64 s, .int .i64 o, .int .i64 y, .int .i64 tn, .int .i64 c, .int .i64 k, .int .i64 a, .int .i64 t, .int .i64 c', .int .i64 k', .int .i64 a', .int .i64 t'] rfl rfl rfl rfl rfl ?_ ?_ ?_); exact t_; simp [Value.oneCell']))
        clear m0 m1 m2 m3 m4 m5 m6 m7 m8 m9 m10 m11 m12 m13 m14 mf ra_ t_
        generalize (w3.setCell ⟨D, 5, none⟩ (.int .i64 y)) = W4 at *
        obtain ⟨WE, hWE⟩ : ∃ X, X = W4.setCells R 0 [.int .i64 d, .int .i64 l, .int .i64 f, .int .i64 s, .int .i64 o, .int .i64 y, .int .i64 tn, .int .i64 c, .int .i64 k, .int .i64 a, .int .i64 t, .int .i64 c', .int .i64 k', .int .i64 a', .int .i64 t'] := ⟨_, rfl⟩
        have BR : BoxF WE R [.int .i64 d, .int .i64 l, .int .i64 f, .int .i64 s, .int .i64 o, .int .i64 y, .int .i64 tn, .int .i64 c, .int .i64 k, .int .i64 a, .int .i64 t, .int .i64 c', .int .i64 k', .int .i64 a', .int .i64 t'] 29 := by rw [hWE]; exact BoxF.setAll (vs := [.int .i64 d, .int .i64 l, .int .i64 f, .int .i64 s, .int .i64 o, .int .i64 y, .int .i64 tn, .int .i64 c, .int .i64 k, .int .i64 a, .int .i64 t, .int .i64 c', .int .i64 k', .int .i64 a', .int .i64 t']) XR4.out
        have g_ : W4.grownBy WE (some R) := by rw [hWE]; exact setc_grown W4 R [.int .i64 d, .int .i64 l, .int .i64 f, .int .i64 s, .int .i64 o, .int .i64 y, .int .i64 tn, .int .i64 c, .int .i64 k, .int .i64 a, .int .i64 t, .int .i64 c', .int .i64 k', .int .i64 a', .int .i64 t']
        have HCe := (HC4.out.mono (M' := M + 200) (by omega)).kept g_ (fun k hk => by cases hk; omega)
        have Ge := grownBy_own G4.out g_ (fun k hk => by cases hk; omega)
        rw [← hWE]
        clear g_ hWE
        obtain ⟨z0, z1, z2, z3, z4, z5, z6, z7, z8, z9, z10, z11, z12, z13, z14, zf⟩ := BR.fifteen
        exact bodyPost_ret (v := .agg #[.int .i64 d, .int .i64 l, .int .i64 f, .int .i64 s, .int .i64 o, .int .i64 y, .int .i64 tn, .int .i64 c, .int .i64 k, .int .i64 a, .int .i64 t, .int .i64 c', .int .i64 k', .int .i64 a', .int .i64 t']) (by simp [results, Tryd.results24, go_sem, z0, z1, z2, z3, z4, z5, z6, z7, z8, z9, z10, z11, z12, z13, z14]) rfl ⟨⟨_, _, _, _, _, _, _, _, _, _, _, _, _, _, _, rfl⟩, HCe, Ge⟩
      · have t2 : (r == 2) = false := by rw [beq_eq_false_iff_ne]; exact e2
        by_cases e3 : r = 3
        · have t3 : (r == 3) = true := by rw [beq_iff_eq]; exact e3
          clear e0 e1 e2 e3 hr0 hr1
          go_wp2_with fail
          with_reducible refine (among_p B p x n cap _ _ (HC2.out.alloc _) (by omega) hn w2.heap.size 3 3 (fun _ => True) (by omega) (by omega) (numRowP_alloc w2 #[.int .i64 (0), .int .i64 (10), .int .i64 (3)] 3 (fun _ => True) 3 rfl (by simp [isNumP])) (by have := HC2.out.lt; omega) (by rw [alloc_size]; omega)).mono ?_
          rintro e w3 ⟨⟨y, rfl, _⟩, hc, hg⟩
          have HC3 := Lib.hid hc
          have XA3 := Lib.hid ((XA2.out.alloc _).kept hg (by first | (simp; done) | (simp; omega)))
          have XR3 := Lib.hid ((XR2.out.alloc _).kept hg (by first | (simp; done) | (simp; omega)))
          have G3 := Lib.hid (G2.out.trans ((World.grownBy_alloc w2 _ _).trans hg))
          clear hc hg HC2 XA2 XR2 G2
          have b_ := XA3.out
          obtain ⟨m0, m1, m2, m3, m4, m5, m6, m7, m8, m9, m10, m11, m12, m13, m14, mf⟩ := b_.fifteen
          clear b_
          have gs : w3.grownBy (w3.setCell ⟨D, 6, none⟩ (.int .i64 y)) (some D) := sets_grown [.int .i64 y] 6 w3
          have a_ : BoxF (w3.setCell ⟨D, 6, none⟩ (.int .i64 y)) D [.int .i64 d, .int .i64 l, .int .i64 f, .int .i64 s, .int .i64 o, .int .i64 ln, .int .i64 y, .int .i64 c, .int .i64 k, .int .i64 a, .int .i64 t, .int .i64 c', .int .i64 k', .int .i64 a', .int .i64 t'] 29 := sets_box [.int .i64 y] 6 XA3.out
          have r_ : BoxF (w3.setCell ⟨D, 6, none⟩ (.int .i64 y)) R [.int .i64 0, .int .i64 0, .int .i64 0, .int .i64 0, .int .i64 0, .int .i64 0, .int .i64 0, .int .i64 0, .int .i64 0, .int .i64 0, .int .i64 0, .int .i64 0, .int .i64 0, .int .i64 0, .int .i64 0] 29 := XR3.out.kept gs (by first | (simp; done) | (simp; omega))
          have XR4 := Lib.hid r_
          have HC4 := Lib.hid (HC3.out.kept gs (fun k hk => by cases hk; omega))
          have G4 := Lib.hid (grownBy_own G3.out gs (fun k hk => by cases hk; omega))
          have ra_ := a_.range
          have t_ := r_.ther (n := 15) rfl
          clear a_ r_ gs HC3 XA3 XR3 G3
          go_wp2_with (first | (with_reducible refine isList ?_; refine ld15 3 D [.int .i64 d, .int .i64 l, .int .i64 f, .int .i64 s, .int .i64 o, .int .i64 ln, .int .i64 y, .int .i64 c, .int .i64 k, .int .i64 a, .int .i64 t, .int .i64 c', .int .i64 k', .int .i64 a', .int .i64 t'] rfl rfl rfl rfl ?_ ?_; exact ra_) | (with_reducible refine isList ?_; (set_option maxRecDepth 100000 in refine st15 2 41 R [.int .i64 d, .int .i64 l, .int .i64 f, .int .i64 s, .int .i64 o, .int .i64 ln, .int .i64 y, .int .i64 c, .int .i64 k, .int .i64 a, .int .i64 t, .int .i64 c', .int .i64 k', .int .i64 a', .int .i64 t'] rfl rfl rfl rfl rfl ?_ ?_ ?_); exact t_; simp [Value.oneCell']))
          clear m0 m1 m2 m3 m4 m5 m6 m7 m8 m9 m10 m11 m12 m13 m14 mf ra_ t_
          generalize (w3.setCell ⟨D, 6, none⟩ (.int .i64 y)) = W4 at *
          obtain ⟨WE, hWE⟩ : ∃ X, X = W4.setCells R 0 [.int .i64 d, .int .i64 l, .int .i64 f, .int .i64 s, .int .i64 o, .int .i64 ln, .int .i64 y, .int .i64 c, .int .i64 k, .int .i64 a, .int .i64 t, .int .i64 c', .int .i64 k', .int .i64 a', .int .i64 t'] := ⟨_, rfl⟩
          have BR : BoxF WE R [.int .i64 d, .int .i64 l, .int .i64 f, .int .i64 s, .int .i64 o, .int .i64 ln, .int .i64 y, .int .i64 c, .int .i64 k, .int .i64 a, .int .i64 t, .int .i64 c', .int .i64 k', .int .i64 a', .int .i64 t'] 29 := by rw [hWE]; exact BoxF.setAll (vs := [.int .i64 d, .int .i64 l, .int .i64 f, .int .i64 s, .int .i64 o, .int .i64 ln, .int .i64 y, .int .i64 c, .int .i64 k, .int .i64 a, .int .i64 t, .int .i64 c', .int .i64 k', .int .i64 a', .int .i64 t']) XR4.out
          have g_ : W4.grownBy WE (some R) := by rw [hWE]; exact setc_grown W4 R [.int .i64 d, .int .i64 l, .int .i64 f, .int .i64 s, .int .i64 o, .int .i64 ln, .int .i64 y, .int .i64 c, .int .i64 k, .int .i64 a, .int .i64 t, .int .i64 c', .int .i64 k', .int .i64 a', .int .i64 t']
          have HCe := (HC4.out.mono (M' := M + 200) (by omega)).kept g_ (fun k hk => by cases hk; omega)
          have Ge := grownBy_own G4.out g_ (fun k hk => by cases hk; omega)
          rw [← hWE]
          clear g_ hWE
          obtain ⟨z0, z1, z2, z3, z4, z5, z6, z7, z8, z9, z10, z11, z12, z13, z14, zf⟩ := BR.fifteen
          exact bodyPost_ret (v := .agg #[.int .i64 d, .int .i64 l, .int .i64 f, .int .i64 s, .int .i64 o, .int .i64 ln, .int .i64 y, .int .i64 c, .int .i64 k, .int .i64 a, .int .i64 t, .int .i64 c', .int .i64 k', .int .i64 a', .int .i64 t']) (by simp [results, Tryd.results24, go_sem, z0, z1, z2, z3, z4, z5, z6, z7, z8, z9, z10, z11, z12, z13, z14]) rfl ⟨⟨_, _, _, _, _, _, _, _, _, _, _, _, _, _, _, rfl⟩, HCe, Ge⟩
        · have t3 : (r == 3) = false := by rw [beq_eq_false_iff_ne]; exact e3
          by_cases e4 : r = 4
          · have t4 : (r == 4) = true := by rw [beq_iff_eq]; exact e4
            clear e0 e1 e2 e3 e4 hr0 hr1
            go_wp2_with fail
            with_reducible refine (anyGroup_any B p x n cap _ _ HC2.out (by omega) hn).mono ?_
            rintro e w3 ⟨⟨y0, y1, y2, y3, rfl⟩, hc, hg⟩
            have HC3 := Lib.hid hc
            have XA3 := Lib.hid (XA2.out.kept hg (by first | (simp; done) | (simp; omega)))
            have XR3 := Lib.hid (XR2.out.kept hg (by first | (simp; done) | (simp; omega)))
            have G3 := Lib.hid (G2.out.trans hg)
            clear hc hg HC2 XA2 XR2 G2
            have b_ := XA3.out
            obtain ⟨m0, m1, m2, m3, m4, m5, m6, m7, m8, m9, m10, m11, m12, m13, m14, mf⟩ := b_.fifteen
            clear b_
            have gs : w3.grownBy ((((w3.setCell ⟨D, 7, none⟩ (.int .i64 y0)).setCell ⟨D, 8, none⟩ (.int .i64 y1)).setCell ⟨D, 9, none⟩ (.int .i64 y2)).setCell ⟨D, 10, none⟩ (.int .i64 y3)) (some D) := sets_grown [.int .i64 y0, .int .i64 y1, .int .i64 y2, .int .i64 y3] 7 w3
            have a_ : BoxF ((((w3.setCell ⟨D, 7, none⟩ (.int .i64 y0)).setCell ⟨D, 8, none⟩ (.int .i64 y1)).setCell ⟨D, 9, none⟩ (.int .i64 y2)).setCell ⟨D, 10, none⟩ (.int .i64 y3)) D [.int .i64 d, .int .i64 l, .int .i64 f, .int .i64 s, .int .i64 o, .int .i64 ln, .int .i64 tn, .int .i64 y0, .int .i64 y1, .int .i64 y2, .int .i64 y3, .int .i64 c', .int .i64 k', .int .i64 a', .int .i64 t'] 29 := sets_box [.int .i64 y0, .int .i64 y1, .int .i64 y2, .int .i64 y3] 7 XA3.out
            have r_ : BoxF ((((w3.setCell ⟨D, 7, none⟩ (.int .i64 y0)).setCell ⟨D, 8, none⟩ (.int .i64 y1)).setCell ⟨D, 9, none⟩ (.int .i64 y2)).setCell ⟨D, 10, none⟩ (.int .i64 y3)) R [.int .i64 0, .int .i64 0, .int .i64 0, .int .i64 0, .int .i64 0, .int .i64 0, .int .i64 0, .int .i64 0, .int .i64 0, .int .i64 0, .int .i64 0, .int .i64 0, .int .i64 0, .int .i64 0, .int .i64 0] 29 := XR3.out.kept gs (by first | (simp; done) | (simp; omega))
            have XR4 := Lib.hid r_
            have HC4 := Lib.hid (HC3.out.kept gs (fun k hk => by cases hk; omega))
            have G4 := Lib.hid (grownBy_own G3.out gs (fun k hk => by cases hk; omega))
            have ra_ := a_.range
            have t_ := r_.ther (n := 15) rfl
            clear a_ r_ gs HC3 XA3 XR3 G3
            go_wp2_with (first | (with_reducible refine isList ?_; refine ld15 3 D [.int .i64 d, .int .i64 l, .int .i64 f, .int .i64 s, .int .i64 o, .int .i64 ln, .int .i64 tn, .int .i64 y0, .int .i64 y1, .int .i64 y2, .int .i64 y3, .int .i64 c', .int .i64 k', .int .i64 a', .int .i64 t'] rfl rfl rfl rfl ?_ ?_; exact ra_) | (with_reducible refine isList ?_; (set_option maxRecDepth 100000 in refine st15 2 41 R [.int .i64 d, .int .i64 l, .int .i64 f, .int .i64 s, .int .i64 o, .int .i64 ln, .int .i64 tn, .int .i64 y0, .int .i64 y1, .int .i64 y2, .int .i64 y3, .int .i64 c', .int .i64 k', .int .i64 a', .int .i64 t'] rfl rfl rfl rfl rfl ?_ ?_ ?_); exact t_; simp [Value.oneCell']))
            clear m0 m1 m2 m3 m4 m5 m6 m7 m8 m9 m10 m11 m12 m13 m14 mf ra_ t_
            generalize ((((w3.setCell ⟨D, 7, none⟩ (.int .i64 y0)).setCell ⟨D, 8, none⟩ (.int .i64 y1)).setCell ⟨D, 9, none⟩ (.int .i64 y2)).setCell ⟨D, 10, none⟩ (.int .i64 y3)) = W4 at *
            obtain ⟨WE, hWE⟩ : ∃ X, X = W4.setCells R 0 [.int .i64 d, .int .i64 l, .int .i64 f, .int .i64 s, .int .i64 o, .int .i64 ln, .int .i64 tn, .int .i64 y0, .int .i64 y1, .int .i64 y2, .int .i64 y3, .int .i64 c', .int .i64 k', .int .i64 a', .int .i64 t'] := ⟨_, rfl⟩
            have BR : BoxF WE R [.int .i64 d, .int .i64 l, .int .i64 f, .int .i64 s, .int .i64 o, .int .i64 ln, .int .i64 tn, .int .i64 y0, .int .i64 y1, .int .i64 y2, .int .i64 y3, .int .i64 c', .int .i64 k', .int .i64 a', .int .i64 t'] 29 := by rw [hWE]; exact BoxF.setAll (vs := [.int .i64 d, .int .i64 l, .int .i64 f, .int .i64 s, .int .i64 o, .int .i64 ln, .int .i64 tn, .int .i64 y0, .int .i64 y1, .int .i64 y2, .int .i64 y3, .int .i64 c', .int .i64 k', .int .i64 a', .int .i64 t']) XR4.out
            have g_ : W4.grownBy WE (some R) := by rw [hWE]; exact setc_grown W4 R [.int .i64 d, .int .i64 l, .int .i64 f, .int .i64 s, .int .i64 o, .int .i64 ln, .int .i64 tn, .int .i64 y0, .int .i64 y1, .int .i64 y2, .int .i64 y3, .int .i64 c', .int .i64 k', .int .i64 a', .int .i64 t']
            have HCe := (HC4.out.mono (M' := M + 200) (by omega)).kept g_ (fun k hk => by cases hk; omega)
            have Ge := grownBy_own G4.out g_ (fun k hk => by cases hk; omega)
            rw [← hWE]
            clear g_ hWE
            obtain ⟨z0, z1, z2, z3, z4, z5, z6, z7, z8, z9, z10, z11, z12, z13, z14, zf⟩ := BR.fifteen
            exact bodyPost_ret (v := .agg #[.int .i64 d, .int .i64 l, .int .i64 f, .int .i64 s, .int .i64 o, .int .i64 ln, .int .i64 tn, .int .i64 y0, .int .i64 y1, .int .i64 y2, .int .i64 y3, .int .i64 c', .int .i64 k', .int .i64 a', .int .i64 t']) (by simp [results, Tryd.results24, go_sem, z0, z1, z2, z3, z4, z5, z6, z7, z8, z9, z10, z11, z12, z13, z14]) rfl ⟨⟨_, _, _, _, _, _, _, _, _, _, _, _, _, _, _, rfl⟩, HCe, Ge⟩
          · have t4 : (r == 4) = false := by rw [beq_eq_false_iff_ne]; exact e4
            by_cases e5 : r = 5
            · have t5 : (r == 5) = true := by rw [beq_iff_eq]; exact e5
              clear e0 e1 e2 e3 e4 e5 hr0 hr1
              go_wp2_with fail
              with_reducible refine (anyGroup_any B p x n cap _ _ HC2.out (by omega) hn).mono ?_
              rintro e w3 ⟨⟨y0, y1, y2, y3, rfl⟩, hc, hg⟩
              have HC3 := Lib.hid hc
              have XA3 := Lib.hid (XA2.out.kept hg (by first | (simp; done) | (simp; omega)))
              have XR3 := Lib.hid (XR2.out.kept hg (by first | (simp; done) | (simp; omega)))
              have G3 := Lib.hid (G2.out.trans hg)
              clear hc hg HC2 XA2 XR2 G2
              have b_ := XA3.out
              obtain ⟨m0, m1, m2, m3, m4, m5, m6, m7, m8, m9, m10, m11, m12, m13, m14, mf⟩ := b_.fifteen
              clear b_
              have gs : w3.grownBy ((((w3.setCell ⟨D, 11, none⟩ (.int .i64 y0)).setCell ⟨D, 12, none⟩ (.int .i64 y1)).setCell ⟨D, 13, none⟩ (.int .i64 y2)).setCell ⟨D, 14, none⟩ (.int .i64 y3)) (some D) := sets_grown [.int .i64 y0, .int .i64 y1, .int .i64 y2, .int .i64 y3] 11 w3
              have a_ : BoxF ((((w3.setCell ⟨D, 11, none⟩ (.int .i64 y0)).setCell ⟨D, 12, none⟩ (.int .i64 y1)).setCell ⟨D, 13, none⟩ (.int .i64 y2)).setCell ⟨D, 14, none⟩ (.int .i64 y3)) D [.int .i64 d, .int .i64 l, .int .i64 f, .int .i64 s, .int .i64 o, .int .i64 ln, .int .i64 tn, .int .i64 c, .int .i64 k, .int .i64 a, .int .i64 t, .int .i64 y0, .int .i64 y1, .int .i64 y2, .int .i64 y3] 29 := sets_box [.int .i64 y0, .int .i64 y1, .int .i64 y2, .int .i64 y3] 11 XA3.out
              have r_ : BoxF ((((w3.setCell ⟨D, 11, none⟩ (.int .i64 y0)).setCell ⟨D, 12, none⟩ (.int .i64 y1)).setCell ⟨D, 13, none⟩ (.int .i64 y2)).setCell ⟨D, 14, none⟩ (.int .i64 y3)) R [.int .i64 0, .int .i64 0, .int .i64 0, .int .i64 0, .int .i64 0, .int .i64 0, .int .i64 0, .int .i64 0, .int .i64 0, .int .i64 0, .int .i64 0, .int .i64 0, .int .i64 0, .int .i64 0, .int .i64 0] 29 := XR3.out.kept gs (by first | (simp; done) | (simp; omega))
              have XR4 := Lib.hid r_
              have HC4 := Lib.hid (HC3.out.kept gs (fun k hk => by cases hk; omega))
              have G4 := Lib.hid (grownBy_own G3.out gs (fun k hk => by cases hk; omega))
              have ra_ := a_.range
              have t_ := r_.ther (n := 15) rfl
              clear a_ r_ gs HC3 XA3 XR3 G3
              go_wp2_with (first | (with_reducible refine isList ?_; refine ld15 3 D [.int .i64 d, .int .i64 l, .int .i64 f, .int .i64 s, .int .i64 o, .int .i64 ln, .int .i64 tn, .int .i64 c, .int .i64 k, .int .i64 a, .int .i64 t, .int .i64 y0, .int .i64 y1, .int .i64 y2, .int .i64 y3] rfl rfl rfl rfl ?_ ?_; exact ra_) | (with_reducible refine isList ?_; (set_option maxRecDepth 100000 in refine st15 2 41 R [.int .i64 d, .int .i64 l, .int .i64 f, .int .i64 s, .int .i64 o, .int .i64 ln, .int .i64 tn, .int .i64 c, .int .i64 k, .int .i64 a, .int .i64 t, .int .i64 y0, .int .i64 y1, .int .i64 y2, .int .i64 y3] rfl rfl rfl rfl rfl ?_ ?_ ?_); exact t_; simp [Value.oneCell']))
              clear m0 m1 m2 m3 m4 m5 m6 m7 m8 m9 m10 m11 m12 m13 m14 mf ra_ t_
              generalize ((((w3.setCell ⟨D, 11, none⟩ (.int .i64 y0)).setCell ⟨D, 12, none⟩ (.int .i64 y1)).setCell ⟨D, 13, none⟩ (.int .i64 y2)).setCell ⟨D, 14, none⟩ (.int .i64 y3)) = W4 at *
              obtain ⟨WE, hWE⟩ : ∃ X, X = W4.setCells R 0 [.int .i64 d, .int .i64 l, .int .i64 f, .int .i64 s, .int .i64 o, .int .i64 ln, .int .i64 tn, .int .i64 c, .int .i64 k, .int .i64 a, .int .i64 t, .int .i64 y0, .int .i64 y1, .int .i64 y2, .int .i64 y3] := ⟨_, rfl⟩
              have BR : BoxF WE R [.int .i64 d, .int .i64 l, .int .i64 f, .int .i64 s, .int .i64 o, .int .i64 ln, .int .i64 tn, .int .i64 c, .int .i64 k, .int .i64 a, .int .i64 t, .int .i64 y0, .int .i64 y1, .int .i64 y2, .int .i64 y3] 29 := by rw [hWE]; exact BoxF.setAll (vs := [.int .i64 d, .int .i64 l, .int .i64 f, .int .i64 s, .int .i64 o, .int .i64 ln, .int .i64 tn, .int .i64 c, .int .i64 k, .int .i64 a, .int .i64 t, .int .i64 y0, .int .i64 y1, .int .i64 y2, .int .i64 y3]) XR4.out
              have g_ : W4.grownBy WE (some R) := by rw [hWE]; exact setc_grown W4 R [.int .i64 d, .int .i64 l, .int .i64 f, .int .i64 s, .int .i64 o, .int .i64 ln, .int .i64 tn, .int .i64 c, .int .i64 k, .int .i64 a, .int .i64 t, .int .i64 y0, .int .i64 y1, .int .i64 y2, .int .i64 y3]
              have HCe := (HC4.out.mono (M' := M + 200) (by omega)).kept g_ (fun k hk => by cases hk; omega)
              have Ge := grownBy_own G4.out g_ (fun k hk => by cases hk; omega)
              rw [← hWE]
              clear g_ hWE
              obtain ⟨z0, z1, z2, z3, z4, z5, z6, z7, z8, z9, z10, z11, z12, z13, z14, zf⟩ := BR.fifteen
              exact bodyPost_ret (v := .agg #[.int .i64 d, .int .i64 l, .int .i64 f, .int .i64 s, .int .i64 o, .int .i64 ln, .int .i64 tn, .int .i64 c, .int .i64 k, .int .i64 a, .int .i64 t, .int .i64 y0, .int .i64 y1, .int .i64 y2, .int .i64 y3]) (by simp [results, Tryd.results24, go_sem, z0, z1, z2, z3, z4, z5, z6, z7, z8, z9, z10, z11, z12, z13, z14]) rfl ⟨⟨_, _, _, _, _, _, _, _, _, _, _, _, _, _, _, rfl⟩, HCe, Ge⟩
            · have t5 : (r == 5) = false := by rw [beq_eq_false_iff_ne]; exact e5
              clear e0 e1 e2 e3 e4 e5 hr0 hr1
              have ra_ := XA2.out.range
              have t_ := XR2.out.ther (n := 15) rfl
              go_wp2_with (first | (with_reducible refine isList ?_; refine ld15 3 D [.int .i64 d, .int .i64 l, .int .i64 f, .int .i64 s, .int .i64 o, .int .i64 ln, .int .i64 tn, .int .i64 c, .int .i64 k, .int .i64 a, .int .i64 t, .int .i64 c', .int .i64 k', .int .i64 a', .int .i64 t'] rfl rfl rfl rfl ?_ ?_; exact ra_) | (with_reducible refine isList ?_; (set_option maxRecDepth 100000 in refine st15 2 41 R [.int .i64 d, .int .i64 l, .int .i64 f, .int .i64 s, .int .i64 o, .int .i64 ln, .int .i64 tn, .int .i64 c, .int .i64 k, .int .i64 a, .int .i64 t, .int .i64 c', .int .i64 k', .int .i64 a', .int .i64 t'] rfl rfl rfl rfl rfl ?_ ?_ ?_); exact t_; simp [Value.oneCell']))
              clear ra_ t_
              obtain ⟨WE, hWE⟩ : ∃ X, X = w2.setCells R 0 [.int .i64 d, .int .i64 l, .int .i64 f, .int .i64 s, .int .i64 o, .int .i64 ln, .int .i64 tn, .int .i64 c, .int .i64 k, .int .i64 a, .int .i64 t, .int .i64 c', .int .i64 k', .int .i64 a', .int .i64 t'] := ⟨_, rfl⟩
              have BR : BoxF WE R [.int .i64 d, .int .i64 l, .int .i64 f, .int .i64 s, .int .i64 o, .int .i64 ln, .int .i64 tn, .int .i64 c, .int .i64 k, .int .i64 a, .int .i64 t, .int .i64 c', .int .i64 k', .int .i64 a', .int .i64 t'] 29 := by rw [hWE]; exact BoxF.setAll (vs := [.int .i64 d, .int .i64 l, .int .i64 f, .int .i64 s, .int .i64 o, .int .i64 ln, .int .i64 tn, .int .i64 c, .int .i64 k, .int .i64 a, .int .i64 t, .int .i64 c', .int .i64 k', .int .i64 a', .int .i64 t']) XR2.out
              have g_ : w2.grownBy WE (some R) := by rw [hWE]; exact setc_grown w2 R [.int .i64 d, .int .i64 l, .int .i64 f, .int .i64 s, .int .i64 o, .int .i64 ln, .int .i64 tn, .int .i64 c, .int .i64 k, .int .i64 a, .int .i64 t, .int .i64 c', .int .i64 k', .int .i64 a', .int .i64 t']
              have HCe := (HC2.out.mono (M' := M + 200) (by omega)).kept g_ (fun k hk => by cases hk; omega)
              have Ge := grownBy_own G2.out g_ (fun k hk => by cases hk; omega)
              rw [← hWE]
              clear g_ hWE
              obtain ⟨z0, z1, z2, z3, z4, z5, z6, z7, z8, z9, z10, z11, z12, z13, z14, zf⟩ := BR.fifteen
              exact bodyPost_ret (v := .agg #[.int .i64 d, .int .i64 l, .int .i64 f, .int .i64 s, .int .i64 o, .int .i64 ln, .int .i64 tn, .int .i64 c, .int .i64 k, .int .i64 a, .int .i64 t, .int .i64 c', .int .i64 k', .int .i64 a', .int .i64 t']) (by simp [results, Tryd.results24, go_sem, z0, z1, z2, z3, z4, z5, z6, z7, z8, z9, z10, z11, z12, z13, z14]) rfl ⟨⟨_, _, _, _, _, _, _, _, _, _, _, _, _, _, _, rfl⟩, HCe, Ge⟩
end Go.Proofs.YtpcghkciibbmgaaDoor
