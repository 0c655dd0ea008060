/- Contract: the draw of arms with a chief. -/
import Derived.Test.YtmmbhglmafnfpabDoorE8Draw
namespace Go.Proofs.YtmmbhglmafnfpabDoor
open Go.RowKit

set_option maxRecDepth 100000 in
set_option maxHeartbeats 8000000 in
theorem drawLen_any (x : Option Addr) (n cap : Nat) (w : World) (h : RdB w w.heap.size x n) (hn : n ≤ 65536) :
    Calls Tryd.prog 13 #[.slice x n cap] w fun e w' => (∃ d l f s o ln tn c k a t c' k' a' t' : Int, e = .returned (.agg #[.int .i64 d, .int .i64 l, .int .i64 f, .int .i64 s, .int .i64 o, .int .i64 ln, .int .i64 tn, .int .i64 c, .int .i64 k, .int .i64 a, .int .i64 t, .int .i64 c', .int .i64 k', .int .i64 a', .int .i64 t'])) ∧ Below w.heap.size w w' := by
  have b0 := BoxF.new w [.int .i64 0, .int .i64 0, .int .i64 0, .int .i64 0, .int .i64 0, .int .i64 0, .int .i64 0, .int .i64 0, .int .i64 0, .int .i64 0, .int .i64 0, .int .i64 0, .int .i64 0, .int .i64 0, .int .i64 0] 29
  have hB0 : Below w.heap.size w (w.alloc (.cells #[.int .i64 0, .int .i64 0, .int .i64 0, .int .i64 0, .int .i64 0, .int .i64 0, .int .i64 0, .int .i64 0, .int .i64 0, .int .i64 0, .int .i64 0, .int .i64 0, .int .i64 0, .int .i64 0, .int .i64 0] 29 (0, 0))) := (Below.refl _ w).alloc (Nat.le_refl _) _
  have hc := isCur_new cap (h.on hB0)
  simp only [World.size_alloc] at hc
  have hB1 := hB0.alloc (by simp) (.cells #[.slice x n cap, .int .i64 0, .int .u64 0] 66 (0, 0))
  have hc : IsCur _ w.heap.size (w.heap.size + 1) x n cap 0 := ⟨by omega, h.keptQ hB1, hc.2.2⟩
  have HC0 := Lib.hid hc
  have XR0 := Lib.hid (b0.alloc (.cells #[.slice x n cap, .int .i64 0, .int .u64 0] 66 (0, 0)))
  have HB0 := Lib.hid hB1
  clear h hc b0 hB0 hB1
  go_enter Tryd.func13, Tryd.ntmps13
  go_wp2_with fail
  refine (anyArms_any w.heap.size (w.heap.size + 1) x n cap 0 _ HC0.out (by omega) hn).mono ?_
  rintro e w1 ⟨⟨d, l, f, s, o, ln, tn, c, k, a, t, c', k', a', t', rfl⟩, hc1, hg1⟩
  have hs1 : w.heap.size + 1 < w1.heap.size := hc1.lt
  have XA1 := BoxF.new w1 [.int .i64 d, .int .i64 l, .int .i64 f, .int .i64 s, .int .i64 o, .int .i64 ln, .int .i64 tn, .int .i64 c, .int .i64 k, .int .i64 a, .int .i64 t, .int .i64 c', .int .i64 k', .int .i64 a', .int .i64 t'] 29
  have HC1 := Lib.hid (hc1.alloc (.cells #[.int .i64 d, .int .i64 l, .int .i64 f, .int .i64 s, .int .i64 o, .int .i64 ln, .int .i64 tn, .int .i64 c, .int .i64 k, .int .i64 a, .int .i64 t, .int .i64 c', .int .i64 k', .int .i64 a', .int .i64 t'] 29 (0, 0)))
  have XR1 := Lib.hid ((XR0.out.kept hg1 (by first | (simp; done) | (simp; omega))).alloc (.cells #[.int .i64 d, .int .i64 l, .int .i64 f, .int .i64 s, .int .i64 o, .int .i64 ln, .int .i64 tn, .int .i64 c, .int .i64 k, .int .i64 a, .int .i64 t, .int .i64 c', .int .i64 k', .int .i64 a', .int .i64 t'] 29 (0, 0)))
  have HB1 := HB0.out.grown hg1 (by simp; omega) (fun q hq => by cases hq; omega)
  have HB1 := Lib.hid (HB1.alloc HB1.size (.cells #[.int .i64 d, .int .i64 l, .int .i64 f, .int .i64 s, .int .i64 o, .int .i64 ln, .int .i64 tn, .int .i64 c, .int .i64 k, .int .i64 a, .int .i64 t, .int .i64 c', .int .i64 k', .int .i64 a', .int .i64 t'] 29 (0, 0)))
  clear hc1 hg1 HC0 XR0 HB0
  obtain ⟨m0, m1, m2, m3, m4, m5, m6, m7, m8, m9, m10, m11, m12, m13, m14, mf⟩ := XA1.fifteen
  by_cases ho : o = 0
  · have t0 : (o != 0) = false := by simp [ho]
    clear ho
    have XR1o := XR1.out
    have HB1o := HB1.out
    have ra_ := XA1.range
    have t_ := XR1o.ther (n := 15) rfl
    go_wp2_with (first | (with_reducible refine isList ?_; refine ld15 4 w1.heap.size [.int .i64 d, .int .i64 l, .int .i64 f, .int .i64 s, .int .i64 o, .int .i64 ln, .int .i64 tn, .int .i64 c, .int .i64 k, .int .i64 a, .int .i64 t, .int .i64 c', .int .i64 k', .int .i64 a', .int .i64 t'] rfl rfl rfl rfl ?_ ?_; exact ra_) | (with_reducible refine isList ?_; (set_option maxRecDepth 100000 in refine st15 2 18 w.heap.size [.int .i64 d, .int .i64 l, .int .i64 f, .int .i64 s, .int .i64 o, .int .i64 ln, .int .i64 tn, .int .i64 c, .int .i64 k, .int .i64 a, .int .i64 t, .int .i64 c', .int .i64 k', .int .i64 a', .int .i64 t'] rfl rfl rfl rfl rfl ?_ ?_ ?_); exact t_; simp [Value.oneCell']))
    clear ra_ t_
    obtain ⟨WE, hWE⟩ : ∃ X, X = (w1.alloc (.cells #[.int .i64 d, .int .i64 l, .int .i64 f, .int .i64 s, .int .i64 o, .int .i64 ln, .int .i64 tn, .int .i64 c, .int .i64 k, .int .i64 a, .int .i64 t, .int .i64 c', .int .i64 k', .int .i64 a', .int .i64 t'] 29 (0, 0))).setCells w.heap.size 0 [.int .i64 d, .int .i64 l, .int .i64 f, .int .i64 s, .int .i64 o, .int .i64 ln, .int .i64 tn, .int .i64 c, .int .i64 k, .int .i64 a, .int .i64 t, .int .i64 c', .int .i64 k', .int .i64 a', .int .i64 t'] := ⟨_, rfl⟩
    have BR : BoxF WE w.heap.size [.int .i64 d, .int .i64 l, .int .i64 f, .int .i64 s, .int .i64 o, .int .i64 ln, .int .i64 tn, .int .i64 c, .int .i64 k, .int .i64 a, .int .i64 t, .int .i64 c', .int .i64 k', .int .i64 a', .int .i64 t'] 29 := by rw [hWE]; exact BoxF.setAll (vs := [.int .i64 d, .int .i64 l, .int .i64 f, .int .i64 s, .int .i64 o, .int .i64 ln, .int .i64 tn, .int .i64 c, .int .i64 k, .int .i64 a, .int .i64 t, .int .i64 c', .int .i64 k', .int .i64 a', .int .i64 t']) XR1o
    have g_ : (w1.alloc (.cells #[.int .i64 d, .int .i64 l, .int .i64 f, .int .i64 s, .int .i64 o, .int .i64 ln, .int .i64 tn, .int .i64 c, .int .i64 k, .int .i64 a, .int .i64 t, .int .i64 c', .int .i64 k', .int .i64 a', .int .i64 t'] 29 (0, 0))).grownBy WE (some w.heap.size) := by rw [hWE]; exact setc_grown _ w.heap.size [.int .i64 d, .int .i64 l, .int .i64 f, .int .i64 s, .int .i64 o, .int .i64 ln, .int .i64 tn, .int .i64 c, .int .i64 k, .int .i64 a, .int .i64 t, .int .i64 c', .int .i64 k', .int .i64 a', .int .i64 t']
    have HBe := HB1o.grown g_ HB1o.size (fun q hq => by cases hq; exact Nat.le_refl _)
    rw [← hWE]
    clear g_ hWE
    obtain ⟨z0, z1, z2, z3, z4, z5, z6, z7, z8, z9, z10, z11, z12, z13, z14, zf⟩ := BR.fifteen
    exact bodyPost_ret (v := .agg #[.int .i64 d, .int .i64 l, .int .i64 f, .int .i64 s, .int .i64 o, .int .i64 ln, .int .i64 tn, .int .i64 c, .int .i64 k, .int .i64 a, .int .i64 t, .int .i64 c', .int .i64 k', .int .i64 a', .int .i64 t']) (by simp [results, Tryd.results13, go_sem, z0, z1, z2, z3, z4, z5, z6, z7, z8, z9, z10, z11, z12, z13, z14]) rfl ⟨⟨_, _, _, _, _, _, _, _, _, _, _, _, _, _, _, rfl⟩, HBe⟩
  · have t0 : (o != 0) = true := by simp [ho]
    have XA1 := Lib.hid XA1
    clear ho
    go_wp2_with fail
    clear m0 m1 m2 m3 m4 m5 m6 m7 m8 m9 m10 m11 m12 m13 m14 mf
    refine (one_any w.heap.size (w.heap.size + 1) x n cap _ _ HC1.out (by omega) hn 2 (by omega) (by omega)).mono ?_
    rintro e w2 ⟨⟨b, rfl⟩, hc2, hg2⟩
    have XA2 := XA1.out.kept hg2 (by first | (simp; done) | (simp; omega))
    have XR2 := XR1.out.kept hg2 (by first | (simp; done) | (simp; omega))
    have HB2 := HB1.out.grown hg2 HB1.out.size (fun q hq => by cases hq; omega)
    clear hc2 hg2 HC1 XA1 XR1 HB1
    cases b
    · 
      have ra_ := XA2.range
      have t_ := XR2.ther (n := 15) rfl
      go_wp2_with (first | (with_reducible refine isList ?_; refine ld15 4 w1.heap.size [.int .i64 d, .int .i64 l, .int .i64 f, .int .i64 s, .int .i64 o, .int .i64 ln, .int .i64 tn, .int .i64 c, .int .i64 k, .int .i64 a, .int .i64 t, .int .i64 c', .int .i64 k', .int .i64 a', .int .i64 t'] rfl rfl rfl rfl ?_ ?_; exact ra_) | (with_reducible refine isList ?_; (set_option maxRecDepth 100000 in refine st15 2 18 w.heap.size [.int .i64 d, .int .i64 l, .int .i64 f, .int .i64 s, .int .i64 o, .int .i64 ln, .int .i64 tn, .int .i64 c, .int .i64 k, .int .i64 a, .int .i64 t, .int .i64 c', .int .i64 k', .int .i64 a', .int .i64 t'] rfl rfl rfl rfl rfl ?_ ?_ ?_); exact t_; simp [Value.oneCell']))
      clear ra_ t_
      obtain ⟨WE, hWE⟩ : ∃ X, X = (w2).setCells w.heap.size 0 [.int .i64 d, .int .i64 l, .int .i64 f, .int .i64 s, .int .i64 o, .int .i64 ln, .int .i64 tn, .int .i64 c, .int .i64 k, .int .i64 a, .int .i64 t, .int .i64 c', .int .i64 k', .int .i64 a', .int .i64 t'] := ⟨_, rfl⟩
      have BR : BoxF WE w.heap.size [.int .i64 d, .int .i64 l, .int .i64 f, .int .i64 s, .int .i64 o, .int .i64 ln, .int .i64 tn, .int .i64 c, .int .i64 k, .int .i64 a, .int .i64 t, .int .i64 c', .int .i64 k', .int .i64 a', .int .i64 t'] 29 := by rw [hWE]; exact BoxF.setAll (vs := [.int .i64 d, .int .i64 l, .int .i64 f, .int .i64 s, .int .i64 o, .int .i64 ln, .int .i64 tn, .int .i64 c, .int .i64 k, .int .i64 a, .int .i64 t, .int .i64 c', .int .i64 k', .int .i64 a', .int .i64 t']) XR2
      have g_ : (w2).grownBy WE (some w.heap.size) := by rw [hWE]; exact setc_grown _ w.heap.size [.int .i64 d, .int .i64 l, .int .i64 f, .int .i64 s, .int .i64 o, .int .i64 ln, .int .i64 tn, .int .i64 c, .int .i64 k, .int .i64 a, .int .i64 t, .int .i64 c', .int .i64 k', .int .i64 a', .int .i64 t']
      have HBe := HB2.grown g_ HB2.size (fun q hq => by cases hq; exact Nat.le_refl _)
      rw [← hWE]
      clear g_ hWE
      obtain ⟨z0, z1, z2, z3, z4, z5, z6, z7, z8, z9, z10, z11, z12, z13, z14, zf⟩ := BR.fifteen
      exact bodyPost_ret (v := .agg #[.int .i64 d, .int .i64 l, .int .i64 f, .int .i64 s, .int .i64 o, .int .i64 ln, .int .i64 tn, .int .i64 c, .int .i64 k, .int .i64 a, .int .i64 t, .int .i64 c', .int .i64 k', .int .i64 a', .int .i64 t']) (by simp [results, Tryd.results13, go_sem, z0, z1, z2, z3, z4, z5, z6, z7, z8, z9, z10, z11, z12, z13, z14]) rfl ⟨⟨_, _, _, _, _, _, _, _, _, _, _, _, _, _, _, rfl⟩, HBe⟩
    · have gs : w2.grownBy (w2.setCell ⟨w1.heap.size, 4, none⟩ (.int .i64 7)) (some w1.heap.size) := grownBy_set w2 w1.heap.size 4 (.int .i64 7)
      have XA3 : BoxF (w2.setCell ⟨w1.heap.size, 4, none⟩ (.int .i64 7)) w1.heap.size [.int .i64 d, .int .i64 l, .int .i64 f, .int .i64 s, .int .i64 7, .int .i64 ln, .int .i64 tn, .int .i64 c, .int .i64 k, .int .i64 a, .int .i64 t, .int .i64 c', .int .i64 k', .int .i64 a', .int .i64 t'] 29 := XA2.set 4 (.int .i64 7)
      have XR3 := XR2.kept gs (by first | (simp; done) | (simp; omega))
      have HB3 := HB2.grown gs HB2.size (fun q hq => by cases hq; omega)
      obtain ⟨m0, m1, m2, m3, m4, m5, m6, m7, m8, m9, m10, m11, m12, m13, m14, mf⟩ := XA2.fifteen
      clear XA2 XR2 HB2 gs
      have ra_ := XA3.range
      have t_ := XR3.ther (n := 15) rfl
      go_wp2_with (first | (with_reducible refine isList ?_; refine ld15 4 w1.heap.size [.int .i64 d, .int .i64 l, .int .i64 f, .int .i64 s, .int .i64 7, .int .i64 ln, .int .i64 tn, .int .i64 c, .int .i64 k, .int .i64 a, .int .i64 t, .int .i64 c', .int .i64 k', .int .i64 a', .int .i64 t'] rfl rfl rfl rfl ?_ ?_; exact ra_) | (with_reducible refine isList ?_; (set_option maxRecDepth 100000 in refine st15 2 18 w.heap.size [.int .i64 d, .int .i64 l, .int .i64 f, .int .i64 s, .int .i64 7, .int .i64 ln, .int .i64 tn, .int .i64 c, .int .i64 k, .int .i64 a, .int .i64 t, .int .i64 c', .int .i64 k', .int .i64 a', .int .i64 t'] rfl rfl rfl rfl rfl ?_ ?_ ?_); exact t_; simp [Value.oneCell']))
      clear ra_ t_
      obtain ⟨WE, hWE⟩ : ∃ X, X = (w2.setCell ⟨w1.heap.size, 4, none⟩ (.int .i64 7)).setCells w.heap.size 0 [.int .i64 d, .int .i64 l, .int .i64 f, .int .i64 s, .int .i64 7, .int .i64 ln, .int .i64 tn, .int .i64 c, .int .i64 k, .int .i64 a, .int .i64 t, .int .i64 c', .int .i64 k', .int .i64 a', .int .i64 t'] := ⟨_, rfl⟩
      have BR : BoxF WE w.heap.size [.int .i64 d, .int .i64 l, .int .i64 f, .int .i64 s, .int .i64 7, .int .i64 ln, .int .i64 tn, .int .i64 c, .int .i64 k, .int .i64 a, .int .i64 t, .int .i64 c', .int .i64 k', .int .i64 a', .int .i64 t'] 29 := by rw [hWE]; exact BoxF.setAll (vs := [.int .i64 d, .int .i64 l, .int .i64 f, .int .i64 s, .int .i64 7, .int .i64 ln, .int .i64 tn, .int .i64 c, .int .i64 k, .int .i64 a, .int .i64 t, .int .i64 c', .int .i64 k', .int .i64 a', .int .i64 t']) XR3
      have g_ : (w2.setCell ⟨w1.heap.size, 4, none⟩ (.int .i64 7)).grownBy WE (some w.heap.size) := by rw [hWE]; exact setc_grown _ w.heap.size [.int .i64 d, .int .i64 l, .int .i64 f, .int .i64 s, .int .i64 7, .int .i64 ln, .int .i64 tn, .int .i64 c, .int .i64 k, .int .i64 a, .int .i64 t, .int .i64 c', .int .i64 k', .int .i64 a', .int .i64 t']
      have HBe := HB3.grown g_ HB3.size (fun q hq => by cases hq; exact Nat.le_refl _)
      rw [← hWE]
      clear g_ hWE
      obtain ⟨z0, z1, z2, z3, z4, z5, z6, z7, z8, z9, z10, z11, z12, z13, z14, zf⟩ := BR.fifteen
      exact bodyPost_ret (v := .agg #[.int .i64 d, .int .i64 l, .int .i64 f, .int .i64 s, .int .i64 7, .int .i64 ln, .int .i64 tn, .int .i64 c, .int .i64 k, .int .i64 a, .int .i64 t, .int .i64 c', .int .i64 k', .int .i64 a', .int .i64 t']) (by simp [results, Tryd.results13, go_sem, z0, z1, z2, z3, z4, z5, z6, z7, z8, z9, z10, z11, z12, z13, z14]) rfl ⟨⟨_, _, _, _, _, _, _, _, _, _, _, _, _, _, _, rfl⟩, HBe⟩
end Go.Proofs.YtmmbhglmafnfpabDoor
