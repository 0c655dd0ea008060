/- Several small texts in one: SPWalkC. -/
import Derived.Test.YtgeidnnjljpdkaaDoorKBA
namespace Go.Proofs.YtgeidnnjljpdkaaDoor
open Go.RowKit Go.Lib

set_option maxRecDepth 100000 in
set_option maxHeartbeats 8000000 in
theorem l6P_full_010_ook (z F R P0 Q0 P Q Od On : ByteArray) (d l f s gc gk ga gt o n x : Int) (w : World) (hz : ¬ (240 : Int) < (z.size : Int))
    (hC : ∀ W, Calls Tryd.prog 113 #[.string z, .string ⟨#[44, 32]⟩] W fun e w' => e = .returned (.tuple #[.string F, .string R, .bool true]) ∧ ∃ q, w' = W.drewN q)
    (hF : ∀ W, Calls Tryd.prog 114 #[.string F] W (AnsF W d l f s true))
    (hG : ∀ W, Calls Tryd.prog 115 #[.string R] W (AnsF W gc gk ga gt false))
    (hB : ∀ W, Calls Tryd.prog 113 #[.string R, .string ⟨#[32, 98, 101, 116, 119, 101, 101, 110, 32]⟩] W fun e w' => e = .returned (.tuple #[.string P0, .string Q0, .bool false]) ∧ ∃ q, w' = W.drewN q)
    (hA : ∀ W, Calls Tryd.prog 113 #[.string R, .string ⟨#[32, 97, 98, 111, 118, 101, 32]⟩] W fun e w' => e = .returned (.tuple #[.string P, .string Q, .bool true]) ∧ ∃ q, w' = W.drewN q)
    (hO : ∀ W, Calls Tryd.prog 113 #[.string P, .string ⟨#[32, 99, 104, 97, 114, 103, 101, 100, 32, 119, 105, 116, 104, 32]⟩] W fun e w' => e = .returned (.tuple #[.string Od, .string On, .bool false]) ∧ ∃ q, w' = W.drewN q)
    (hP : ∀ W, Calls Tryd.prog 29 #[.string Od] W fun e w' => e = .returned (.tuple #[.int .i64 o, .int .i64 n, .int .i64 x, .bool false]) ∧ Below W.heap.size W w') :
    Calls Tryd.prog 73 #[.string z] w (AnsA w 0 0 0 0 0 0 0 0 0 0 0 0 0 0 0 false) := by
  have HC_ := Lib.hid hC
  have HF_ := Lib.hid hF
  have HG_ := Lib.hid hG
  have HB_ := Lib.hid hB
  have HA_ := Lib.hid hA
  have HO_ := Lib.hid hO
  have HP_ := Lib.hid hP
  clear hC hF hG hB hA hO hP
  have K0 := Lib.hid (NK.new w)
  go_enter Tryd.func73, Tryd.ntmps73
  go_wp2_with fail
  refine (HC_.out _).mono ?_
  rintro e w1 ⟨rfl, q, rfl⟩
  have K1 := Lib.hid (K0.out.drewN q)
  clear K0 HC_
  go_wp2_with fail
  refine (HF_.out _).mono ?_
  rintro e w2 ⟨rfl, h2⟩
  have K2 := Lib.hid (K1.out.below h2)
  clear K1 HF_ h2
  have x3 := BoxF.new w2 [.int .i64 d, .int .i64 l, .int .i64 f, .int .i64 s] 33
  have K3 := K2.out.alloc (.cells #[.int .i64 d, .int .i64 l, .int .i64 f, .int .i64 s] 33 (0, 0))
  have K4 := Lib.hid (show MK w (w2.heap.size + 1) [.int .i64 d, .int .i64 l, .int .i64 f, .int .i64 s, .int .i64 0, .int .i64 0, .int .i64 0, .int .i64 0, .int .i64 0, .int .i64 0, .int .i64 0, .int .i64 0, .int .i64 0, .int .i64 0, .int .i64 0] ((w2.alloc (.cells #[.int .i64 d, .int .i64 l, .int .i64 f, .int .i64 s] 33 (0, 0))).alloc (.cells #[.int .i64 d, .int .i64 l, .int .i64 f, .int .i64 s, .int .i64 0, .int .i64 0, .int .i64 0, .int .i64 0, .int .i64 0, .int .i64 0, .int .i64 0, .int .i64 0, .int .i64 0, .int .i64 0, .int .i64 0] 37 (0, 0))) by have h := K3.mk [.int .i64 d, .int .i64 l, .int .i64 f, .int .i64 s, .int .i64 0, .int .i64 0, .int .i64 0, .int .i64 0, .int .i64 0, .int .i64 0, .int .i64 0, .int .i64 0, .int .i64 0, .int .i64 0, .int .i64 0] K3.two; simpa only [World.size_alloc] using h)
  obtain ⟨k0, k1, k2, k3, kf⟩ := x3.four
  clear K2 K3
  go_wp2_with fail
  clear k0 k1 k2 k3 kf x3
  refine (HG_.out _).mono ?_
  rintro e w5 ⟨rfl, h5⟩
  have K5 := Lib.hid ((K4.out.below h5).alloc (.cells #[.int .i64 gc, .int .i64 gk, .int .i64 ga, .int .i64 gt] 35 (0, 0)))
  clear K4 HG_ h5
  go_wp2_with fail
  refine (HB_.out _).mono ?_
  rintro e w6 ⟨rfl, q0, rfl⟩
  have KC0 := Lib.hid (K5.out.drewN (q0))
  clear HB_
  go_wp2_with fail
  refine (HA_.out _).mono ?_
  rintro e w6 ⟨rfl, q1, rfl⟩
  have KC1 := Lib.hid (K5.out.drewN (q0 + q1))
  clear HA_ KC0
  go_wp2_with fail
  refine (HO_.out _).mono ?_
  rintro e w6 ⟨rfl, q2, rfl⟩
  have KC2 := Lib.hid (K5.out.drewN (q0 + q1 + q2))
  clear HO_ KC1
  go_wp2_with fail
  clear K5
  refine (HP_.out _).mono ?_
  rintro e w7 ⟨rfl, h7⟩
  have K7 := Lib.hid (KC2.out.below h7)
  clear KC2 HP_ h7
  have r9 := K7.out.2.1.range
  have t9 := K7.out.1.ther (n := 15) rfl
  go_wp2_with (first | (with_reducible refine isList ?_; refine ld15 4 (w.heap.size + 1) [.int .i64 0, .int .i64 0, .int .i64 0, .int .i64 0, .int .i64 0, .int .i64 0, .int .i64 0, .int .i64 0, .int .i64 0, .int .i64 0, .int .i64 0, .int .i64 0, .int .i64 0, .int .i64 0, .int .i64 0] rfl rfl rfl rfl ?_ ?_; exact r9) | (with_reducible refine isList ?_; (set_option maxRecDepth 100000 in refine st15 2 89 w.heap.size [.int .i64 0, .int .i64 0, .int .i64 0, .int .i64 0, .int .i64 0, .int .i64 0, .int .i64 0, .int .i64 0, .int .i64 0, .int .i64 0, .int .i64 0, .int .i64 0, .int .i64 0, .int .i64 0, .int .i64 0] rfl rfl rfl rfl rfl ?_ ?_ ?_); exact t9; simp [Value.oneCell']))
  have g9 := setc_grownC w7 w.heap.size [.int .i64 0, .int .i64 0, .int .i64 0, .int .i64 0, .int .i64 0, .int .i64 0, .int .i64 0, .int .i64 0, .int .i64 0, .int .i64 0, .int .i64 0, .int .i64 0, .int .i64 0, .int .i64 0, .int .i64 0]
  have BE := Lib.hid ((K7.out).bel.grown g9 (K7.out).bel.size (fun q hq => by cases hq; exact Nat.le_refl _))
  have XR : BoxF (w7.setCells w.heap.size 0 [.int .i64 0, .int .i64 0, .int .i64 0, .int .i64 0, .int .i64 0, .int .i64 0, .int .i64 0, .int .i64 0, .int .i64 0, .int .i64 0, .int .i64 0, .int .i64 0, .int .i64 0, .int .i64 0, .int .i64 0]) w.heap.size [.int .i64 0, .int .i64 0, .int .i64 0, .int .i64 0, .int .i64 0, .int .i64 0, .int .i64 0, .int .i64 0, .int .i64 0, .int .i64 0, .int .i64 0, .int .i64 0, .int .i64 0, .int .i64 0, .int .i64 0] 37 := BoxF.setAll (vs := [.int .i64 0, .int .i64 0, .int .i64 0, .int .i64 0, .int .i64 0, .int .i64 0, .int .i64 0, .int .i64 0, .int .i64 0, .int .i64 0, .int .i64 0, .int .i64 0, .int .i64 0, .int .i64 0, .int .i64 0]) K7.out.1
  generalize w7.setCells w.heap.size 0 [.int .i64 0, .int .i64 0, .int .i64 0, .int .i64 0, .int .i64 0, .int .i64 0, .int .i64 0, .int .i64 0, .int .i64 0, .int .i64 0, .int .i64 0, .int .i64 0, .int .i64 0, .int .i64 0, .int .i64 0] = W9 at *
  obtain ⟨z0, z1, z2, z3, z4, z5, z6, z7, z8, z9, z10, z11, z12, z13, z14, zf⟩ := XR.fifteen
  exact bodyPost_ret (v := .tuple #[.agg #[.int .i64 0, .int .i64 0, .int .i64 0, .int .i64 0, .int .i64 0, .int .i64 0, .int .i64 0, .int .i64 0, .int .i64 0, .int .i64 0, .int .i64 0, .int .i64 0, .int .i64 0, .int .i64 0, .int .i64 0], .bool false]) (by simp [results, Tryd.results73, go_sem, z0, z1, z2, z3, z4, z5, z6, z7, z8, z9, z10, z11, z12, z13, z14]) rfl ⟨rfl, BE.out⟩
set_option maxRecDepth 100000 in
set_option maxHeartbeats 8000000 in
theorem l6P_full_010_g2 (z F R P0 Q0 P Q Od On : ByteArray) (d l f s gc gk ga gt o n x c' k' a' t' : Int) (w : World) (hz : ¬ (240 : Int) < (z.size : Int))
    (hC : ∀ W, Calls Tryd.prog 113 #[.string z, .string ⟨#[44, 32]⟩] W fun e w' => e = .returned (.tuple #[.string F, .string R, .bool true]) ∧ ∃ q, w' = W.drewN q)
    (hF : ∀ W, Calls Tryd.prog 114 #[.string F] W (AnsF W d l f s true))
    (hG : ∀ W, Calls Tryd.prog 115 #[.string R] W (AnsF W gc gk ga gt false))
    (hB : ∀ W, Calls Tryd.prog 113 #[.string R, .string ⟨#[32, 98, 101, 116, 119, 101, 101, 110, 32]⟩] W fun e w' => e = .returned (.tuple #[.string P0, .string Q0, .bool false]) ∧ ∃ q, w' = W.drewN q)
    (hA : ∀ W, Calls Tryd.prog 113 #[.string R, .string ⟨#[32, 97, 98, 111, 118, 101, 32]⟩] W fun e w' => e = .returned (.tuple #[.string P, .string Q, .bool true]) ∧ ∃ q, w' = W.drewN q)
    (hO : ∀ W, Calls Tryd.prog 113 #[.string P, .string ⟨#[32, 99, 104, 97, 114, 103, 101, 100, 32, 119, 105, 116, 104, 32]⟩] W fun e w' => e = .returned (.tuple #[.string Od, .string On, .bool false]) ∧ ∃ q, w' = W.drewN q)
    (hP : ∀ W, Calls Tryd.prog 29 #[.string Od] W fun e w' => e = .returned (.tuple #[.int .i64 o, .int .i64 n, .int .i64 x, .bool true]) ∧ Below W.heap.size W w')
    (h2 : ∀ W, Calls Tryd.prog 115 #[.string Q] W (AnsF W c' k' a' t' false)) :
    Calls Tryd.prog 73 #[.string z] w (AnsA w 0 0 0 0 0 0 0 0 0 0 0 0 0 0 0 false) := by
  have HC_ := Lib.hid hC
  have HF_ := Lib.hid hF
  have HG_ := Lib.hid hG
  have HB_ := Lib.hid hB
  have HA_ := Lib.hid hA
  have HO_ := Lib.hid hO
  have HP_ := Lib.hid hP
  have H2_ := Lib.hid h2
  clear hC hF hG hB hA hO hP h2
  have K0 := Lib.hid (NK.new w)
  go_enter Tryd.func73, Tryd.ntmps73
  go_wp2_with fail
  refine (HC_.out _).mono ?_
  rintro e w1 ⟨rfl, q, rfl⟩
  have K1 := Lib.hid (K0.out.drewN q)
  clear K0 HC_
  go_wp2_with fail
  refine (HF_.out _).mono ?_
  rintro e w2 ⟨rfl, h2⟩
  have K2 := Lib.hid (K1.out.below h2)
  clear K1 HF_ h2
  have x3 := BoxF.new w2 [.int .i64 d, .int .i64 l, .int .i64 f, .int .i64 s] 33
  have K3 := K2.out.alloc (.cells #[.int .i64 d, .int .i64 l, .int .i64 f, .int .i64 s] 33 (0, 0))
  have K4 := Lib.hid (show MK w (w2.heap.size + 1) [.int .i64 d, .int .i64 l, .int .i64 f, .int .i64 s, .int .i64 0, .int .i64 0, .int .i64 0, .int .i64 0, .int .i64 0, .int .i64 0, .int .i64 0, .int .i64 0, .int .i64 0, .int .i64 0, .int .i64 0] ((w2.alloc (.cells #[.int .i64 d, .int .i64 l, .int .i64 f, .int .i64 s] 33 (0, 0))).alloc (.cells #[.int .i64 d, .int .i64 l, .int .i64 f, .int .i64 s, .int .i64 0, .int .i64 0, .int .i64 0, .int .i64 0, .int .i64 0, .int .i64 0, .int .i64 0, .int .i64 0, .int .i64 0, .int .i64 0, .int .i64 0] 37 (0, 0))) by have h := K3.mk [.int .i64 d, .int .i64 l, .int .i64 f, .int .i64 s, .int .i64 0, .int .i64 0, .int .i64 0, .int .i64 0, .int .i64 0, .int .i64 0, .int .i64 0, .int .i64 0, .int .i64 0, .int .i64 0, .int .i64 0] K3.two; simpa only [World.size_alloc] using h)
  obtain ⟨k0, k1, k2, k3, kf⟩ := x3.four
  clear K2 K3
  go_wp2_with fail
  clear k0 k1 k2 k3 kf x3
  refine (HG_.out _).mono ?_
  rintro e w5 ⟨rfl, h5⟩
  have K5 := Lib.hid ((K4.out.below h5).alloc (.cells #[.int .i64 gc, .int .i64 gk, .int .i64 ga, .int .i64 gt] 35 (0, 0)))
  clear K4 HG_ h5
  go_wp2_with fail
  refine (HB_.out _).mono ?_
  rintro e w6 ⟨rfl, q0, rfl⟩
  have KC0 := Lib.hid (K5.out.drewN (q0))
  clear HB_
  go_wp2_with fail
  refine (HA_.out _).mono ?_
  rintro e w6 ⟨rfl, q1, rfl⟩
  have KC1 := Lib.hid (K5.out.drewN (q0 + q1))
  clear HA_ KC0
  go_wp2_with fail
  refine (HO_.out _).mono ?_
  rintro e w6 ⟨rfl, q2, rfl⟩
  have KC2 := Lib.hid (K5.out.drewN (q0 + q1 + q2))
  clear HO_ KC1
  go_wp2_with fail
  clear K5
  refine (HP_.out _).mono ?_
  rintro e w7 ⟨rfl, h7⟩
  have K7 := Lib.hid (KC2.out.below h7)
  clear KC2 HP_ h7
  obtain ⟨x0, x1, x2, x3, x4, x5, x6, x7, x8, x9, x10, x11, x12, x13, x14, xf⟩ := K7.out.2.2.2.1.fifteen
  have K8 := Lib.hid (show MK w (w2.heap.size + 1) [.int .i64 d, .int .i64 l, .int .i64 f, .int .i64 s, .int .i64 o, .int .i64 n, .int .i64 x, .int .i64 0, .int .i64 0, .int .i64 0, .int .i64 0, .int .i64 0, .int .i64 0, .int .i64 0, .int .i64 0] (((w7.setCell ⟨w2.heap.size + 1, 4, none⟩ (.int .i64 o)).setCell ⟨w2.heap.size + 1, 5, none⟩ (.int .i64 n)).setCell ⟨w2.heap.size + 1, 6, none⟩ (.int .i64 x)) from K7.out.puts 4 [.int .i64 o, .int .i64 n, .int .i64 x])
  clear K7
  go_wp2_with fail
  clear x0 x1 x2 x3 x4 x5 x6 x7 x8 x9 x10 x11 x12 x13 x14 xf
  refine (H2_.out _).mono ?_
  rintro e w11 ⟨rfl, hh⟩
  have K11a := Lib.hid (K8.out.below hh)
  clear K8 H2_ hh
  have t_ := K11a.out.2.2.2.1.therM 11 4 (by simp)
  have K11 := Lib.hid (show MK w (w2.heap.size + 1) [.int .i64 d, .int .i64 l, .int .i64 f, .int .i64 s, .int .i64 o, .int .i64 n, .int .i64 x, .int .i64 0, .int .i64 0, .int .i64 0, .int .i64 0, .int .i64 c', .int .i64 k', .int .i64 a', .int .i64 t'] (w11.setCells (w2.heap.size + 1) 11 [.int .i64 c', .int .i64 k', .int .i64 a', .int .i64 t']) from K11a.out.put 11 [.int .i64 c', .int .i64 k', .int .i64 a', .int .i64 t'])
  clear K11a
  have r9 := K11.out.2.1.range
  have t9 := K11.out.1.ther (n := 15) rfl
  go_wp2_with (first | (with_reducible refine isList ?_; (set_option maxRecDepth 100000 in refine stG 112 110 (w2.heap.size + 1) 11 [.int .i64 c', .int .i64 k', .int .i64 a', .int .i64 t'] rfl rfl rfl rfl rfl ?_ ?_ ?_); exact t_; simp [Value.oneCell']) | (with_reducible refine isList ?_; refine ld15 4 (w.heap.size + 1) [.int .i64 0, .int .i64 0, .int .i64 0, .int .i64 0, .int .i64 0, .int .i64 0, .int .i64 0, .int .i64 0, .int .i64 0, .int .i64 0, .int .i64 0, .int .i64 0, .int .i64 0, .int .i64 0, .int .i64 0] rfl rfl rfl rfl ?_ ?_; exact r9) | (with_reducible refine isList ?_; (set_option maxRecDepth 100000 in refine st15 2 126 w.heap.size [.int .i64 0, .int .i64 0, .int .i64 0, .int .i64 0, .int .i64 0, .int .i64 0, .int .i64 0, .int .i64 0, .int .i64 0, .int .i64 0, .int .i64 0, .int .i64 0, .int .i64 0, .int .i64 0, .int .i64 0] rfl rfl rfl rfl rfl ?_ ?_ ?_); exact t9; simp [Value.oneCell']))
  have g9 := setc_grownC (w11.setCells (w2.heap.size + 1) 11 [.int .i64 c', .int .i64 k', .int .i64 a', .int .i64 t']) w.heap.size [.int .i64 0, .int .i64 0, .int .i64 0, .int .i64 0, .int .i64 0, .int .i64 0, .int .i64 0, .int .i64 0, .int .i64 0, .int .i64 0, .int .i64 0, .int .i64 0, .int .i64 0, .int .i64 0, .int .i64 0]
  have BE := Lib.hid ((K11.out).bel.grown g9 (K11.out).bel.size (fun q hq => by cases hq; exact Nat.le_refl _))
  have XR : BoxF ((w11.setCells (w2.heap.size + 1) 11 [.int .i64 c', .int .i64 k', .int .i64 a', .int .i64 t']).setCells w.heap.size 0 [.int .i64 0, .int .i64 0, .int .i64 0, .int .i64 0, .int .i64 0, .int .i64 0, .int .i64 0, .int .i64 0, .int .i64 0, .int .i64 0, .int .i64 0, .int .i64 0, .int .i64 0, .int .i64 0, .int .i64 0]) w.heap.size [.int .i64 0, .int .i64 0, .int .i64 0, .int .i64 0, .int .i64 0, .int .i64 0, .int .i64 0, .int .i64 0, .int .i64 0, .int .i64 0, .int .i64 0, .int .i64 0, .int .i64 0, .int .i64 0, .int .i64 0] 37 := BoxF.setAll (vs := [.int .i64 0, .int .i64 0, .int .i64 0, .int .i64 0, .int .i64 0, .int .i64 0, .int .i64 0, .int .i64 0, .int .i64 0, .int .i64 0, .int .i64 0, .int .i64 0, .int .i64 0, .int .i64 0, .int .i64 0]) K11.out.1
  generalize (w11.setCells (w2.heap.size + 1) 11 [.int .i64 c', .int .i64 k', .int .i64 a', .int .i64 t']).setCells w.heap.size 0 [.int .i64 0, .int .i64 0, .int .i64 0, .int .i64 0, .int .i64 0, .int .i64 0, .int .i64 0, .int .i64 0, .int .i64 0, .int .i64 0, .int .i64 0, .int .i64 0, .int .i64 0, .int .i64 0, .int .i64 0] = W9 at *
  obtain ⟨z0, z1, z2, z3, z4, z5, z6, z7, z8, z9, z10, z11, z12, z13, z14, zf⟩ := XR.fifteen
  exact bodyPost_ret (v := .tuple #[.agg #[.int .i64 0, .int .i64 0, .int .i64 0, .int .i64 0, .int .i64 0, .int .i64 0, .int .i64 0, .int .i64 0, .int .i64 0, .int .i64 0, .int .i64 0, .int .i64 0, .int .i64 0, .int .i64 0, .int .i64 0], .bool false]) (by simp [results, Tryd.results73, go_sem, z0, z1, z2, z3, z4, z5, z6, z7, z8, z9, z10, z11, z12, z13, z14]) rfl ⟨rfl, BE.out⟩
set_option maxRecDepth 100000 in
set_option maxHeartbeats 8000000 in
theorem l6P_full_010_r (z F R P0 Q0 P Q Od On : ByteArray) (d l f s gc gk ga gt o n x c' k' a' t' : Int) (w : World) (hz : ¬ (240 : Int) < (z.size : Int))
    (hC : ∀ W, Calls Tryd.prog 113 #[.string z, .string ⟨#[44, 32]⟩] W fun e w' => e = .returned (.tuple #[.string F, .string R, .bool true]) ∧ ∃ q, w' = W.drewN q)
    (hF : ∀ W, Calls Tryd.prog 114 #[.string F] W (AnsF W d l f s true))
    (hG : ∀ W, Calls Tryd.prog 115 #[.string R] W (AnsF W gc gk ga gt false))
    (hB : ∀ W, Calls Tryd.prog 113 #[.string R, .string ⟨#[32, 98, 101, 116, 119, 101, 101, 110, 32]⟩] W fun e w' => e = .returned (.tuple #[.string P0, .string Q0, .bool false]) ∧ ∃ q, w' = W.drewN q)
    (hA : ∀ W, Calls Tryd.prog 113 #[.string R, .string ⟨#[32, 97, 98, 111, 118, 101, 32]⟩] W fun e w' => e = .returned (.tuple #[.string P, .string Q, .bool true]) ∧ ∃ q, w' = W.drewN q)
    (hO : ∀ W, Calls Tryd.prog 113 #[.string P, .string ⟨#[32, 99, 104, 97, 114, 103, 101, 100, 32, 119, 105, 116, 104, 32]⟩] W fun e w' => e = .returned (.tuple #[.string Od, .string On, .bool false]) ∧ ∃ q, w' = W.drewN q)
    (hP : ∀ W, Calls Tryd.prog 29 #[.string Od] W fun e w' => e = .returned (.tuple #[.int .i64 o, .int .i64 n, .int .i64 x, .bool true]) ∧ Below W.heap.size W w')
    (h2 : ∀ W, Calls Tryd.prog 115 #[.string Q] W (AnsF W c' k' a' t' true))
    (hV : ∀ W, Calls Tryd.prog 51 #[.agg #[.int .i64 d, .int .i64 l, .int .i64 f, .int .i64 s, .int .i64 o, .int .i64 n, .int .i64 x, .int .i64 0, .int .i64 0, .int .i64 0, .int .i64 0, .int .i64 c', .int .i64 k', .int .i64 a', .int .i64 t']] W fun e w' => e = .returned (.bool false) ∧ Below W.heap.size W w') :
    Calls Tryd.prog 73 #[.string z] w (AnsA w 0 0 0 0 0 0 0 0 0 0 0 0 0 0 0 false) := by
  have HC_ := Lib.hid hC
  have HF_ := Lib.hid hF
  have HG_ := Lib.hid hG
  have HB_ := Lib.hid hB
  have HA_ := Lib.hid hA
  have HO_ := Lib.hid hO
  have HP_ := Lib.hid hP
  have H2_ := Lib.hid h2
  have HV_ := Lib.hid hV
  clear hC hF hG hB hA hO hP h2 hV
  have K0 := Lib.hid (NK.new w)
  go_enter Tryd.func73, Tryd.ntmps73
  go_wp2_with fail
  refine (HC_.out _).mono ?_
  rintro e w1 ⟨rfl, q, rfl⟩
  have K1 := Lib.hid (K0.out.drewN q)
  clear K0 HC_
  go_wp2_with fail
  refine (HF_.out _).mono ?_
  rintro e w2 ⟨rfl, h2⟩
  have K2 := Lib.hid (K1.out.below h2)
  clear K1 HF_ h2
  have x3 := BoxF.new w2 [.int .i64 d, .int .i64 l, .int .i64 f, .int .i64 s] 33
  have K3 := K2.out.alloc (.cells #[.int .i64 d, .int .i64 l, .int .i64 f, .int .i64 s] 33 (0, 0))
  have K4 := Lib.hid (show MK w (w2.heap.size + 1) [.int .i64 d, .int .i64 l, .int .i64 f, .int .i64 s, .int .i64 0, .int .i64 0, .int .i64 0, .int .i64 0, .int .i64 0, .int .i64 0, .int .i64 0, .int .i64 0, .int .i64 0, .int .i64 0, .int .i64 0] ((w2.alloc (.cells #[.int .i64 d, .int .i64 l, .int .i64 f, .int .i64 s] 33 (0, 0))).alloc (.cells #[.int .i64 d, .int .i64 l, .int .i64 f, .int .i64 s, .int .i64 0, .int .i64 0, .int .i64 0, .int .i64 0, .int .i64 0, .int .i64 0, .int .i64 0, .int .i64 0, .int .i64 0, .int .i64 0, .int .i64 0] 37 (0, 0))) by have h := K3.mk [.int .i64 d, .int .i64 l, .int .i64 f, .int .i64 s, .int .i64 0, .int .i64 0, .int .i64 0, .int .i64 0, .int .i64 0, .int .i64 0, .int .i64 0, .int .i64 0, .int .i64 0, .int .i64 0, .int .i64 0] K3.two; simpa only [World.size_alloc] using h)
  obtain ⟨k0, k1, k2, k3, kf⟩ := x3.four
  clear K2 K3
  go_wp2_with fail
  clear k0 k1 k2 k3 kf x3
  refine (HG_.out _).mono ?_
  rintro e w5 ⟨rfl, h5⟩
  have K5 := Lib.hid ((K4.out.below h5).alloc (.cells #[.int .i64 gc, .int .i64 gk, .int .i64 ga, .int .i64 gt] 35 (0, 0)))
  clear K4 HG_ h5
  go_wp2_with fail
  refine (HB_.out _).mono ?_
  rintro e w6 ⟨rfl, q0, rfl⟩
  have KC0 := Lib.hid (K5.out.drewN (q0))
  clear HB_
  go_wp2_with fail
  refine (HA_.out _).mono ?_
  rintro e w6 ⟨rfl, q1, rfl⟩
  have KC1 := Lib.hid (K5.out.drewN (q0 + q1))
  clear HA_ KC0
  go_wp2_with fail
  refine (HO_.out _).mono ?_
  rintro e w6 ⟨rfl, q2, rfl⟩
  have KC2 := Lib.hid (K5.out.drewN (q0 + q1 + q2))
  clear HO_ KC1
  go_wp2_with fail
  clear K5
  refine (HP_.out _).mono ?_
  rintro e w7 ⟨rfl, h7⟩
  have K7 := Lib.hid (KC2.out.below h7)
  clear KC2 HP_ h7
  obtain ⟨x0, x1, x2, x3, x4, x5, x6, x7, x8, x9, x10, x11, x12, x13, x14, xf⟩ := K7.out.2.2.2.1.fifteen
  have K8 := Lib.hid (show MK w (w2.heap.size + 1) [.int .i64 d, .int .i64 l, .int .i64 f, .int .i64 s, .int .i64 o, .int .i64 n, .int .i64 x, .int .i64 0, .int .i64 0, .int .i64 0, .int .i64 0, .int .i64 0, .int .i64 0, .int .i64 0, .int .i64 0] (((w7.setCell ⟨w2.heap.size + 1, 4, none⟩ (.int .i64 o)).setCell ⟨w2.heap.size + 1, 5, none⟩ (.int .i64 n)).setCell ⟨w2.heap.size + 1, 6, none⟩ (.int .i64 x)) from K7.out.puts 4 [.int .i64 o, .int .i64 n, .int .i64 x])
  clear K7
  go_wp2_with fail
  clear x0 x1 x2 x3 x4 x5 x6 x7 x8 x9 x10 x11 x12 x13 x14 xf
  refine (H2_.out _).mono ?_
  rintro e w11 ⟨rfl, hh⟩
  have K11a := Lib.hid (K8.out.below hh)
  clear K8 H2_ hh
  have t_ := K11a.out.2.2.2.1.therM 11 4 (by simp)
  have K11 := Lib.hid (show MK w (w2.heap.size + 1) [.int .i64 d, .int .i64 l, .int .i64 f, .int .i64 s, .int .i64 o, .int .i64 n, .int .i64 x, .int .i64 0, .int .i64 0, .int .i64 0, .int .i64 0, .int .i64 c', .int .i64 k', .int .i64 a', .int .i64 t'] (w11.setCells (w2.heap.size + 1) 11 [.int .i64 c', .int .i64 k', .int .i64 a', .int .i64 t']) from K11a.out.put 11 [.int .i64 c', .int .i64 k', .int .i64 a', .int .i64 t'])
  clear K11a
  have hx := K11.out.2.2.2.1.fifteen
  obtain ⟨u0, u1, u2, u3, u4, u5, u6, u7, u8, u9, u10, u11, u12, u13, u14, uf⟩ := hx
  go_wp2_with (with_reducible refine isList ?_; (set_option maxRecDepth 100000 in refine stG 112 110 (w2.heap.size + 1) 11 [.int .i64 c', .int .i64 k', .int .i64 a', .int .i64 t'] rfl rfl rfl rfl rfl ?_ ?_ ?_); exact t_; simp [Value.oneCell'])
  clear t_
  clear u0 u1 u2 u3 u4 u5 u6 u7 u8 u9 u10 u11 u12 u13 u14 uf
  refine (HV_.out _).mono ?_
  rintro e w12 ⟨rfl, hh⟩
  have K12 := Lib.hid (K11.out.below hh)
  clear K11 HV_ hh
  have r9 := K12.out.2.1.range
  have t9 := K12.out.1.ther (n := 15) rfl
  go_wp2_with (first | (with_reducible refine isList ?_; refine ld15 4 (w.heap.size + 1) [.int .i64 0, .int .i64 0, .int .i64 0, .int .i64 0, .int .i64 0, .int .i64 0, .int .i64 0, .int .i64 0, .int .i64 0, .int .i64 0, .int .i64 0, .int .i64 0, .int .i64 0, .int .i64 0, .int .i64 0] rfl rfl rfl rfl ?_ ?_; exact r9) | (with_reducible refine isList ?_; (set_option maxRecDepth 100000 in refine st15 2 126 w.heap.size [.int .i64 0, .int .i64 0, .int .i64 0, .int .i64 0, .int .i64 0, .int .i64 0, .int .i64 0, .int .i64 0, .int .i64 0, .int .i64 0, .int .i64 0, .int .i64 0, .int .i64 0, .int .i64 0, .int .i64 0] rfl rfl rfl rfl rfl ?_ ?_ ?_); exact t9; simp [Value.oneCell']))
  have g9 := setc_grownC w12 w.heap.size [.int .i64 0, .int .i64 0, .int .i64 0, .int .i64 0, .int .i64 0, .int .i64 0, .int .i64 0, .int .i64 0, .int .i64 0, .int .i64 0, .int .i64 0, .int .i64 0, .int .i64 0, .int .i64 0, .int .i64 0]
  have BE := Lib.hid ((K12.out).bel.grown g9 (K12.out).bel.size (fun q hq => by cases hq; exact Nat.le_refl _))
  have XR : BoxF (w12.setCells w.heap.size 0 [.int .i64 0, .int .i64 0, .int .i64 0, .int .i64 0, .int .i64 0, .int .i64 0, .int .i64 0, .int .i64 0, .int .i64 0, .int .i64 0, .int .i64 0, .int .i64 0, .int .i64 0, .int .i64 0, .int .i64 0]) w.heap.size [.int .i64 0, .int .i64 0, .int .i64 0, .int .i64 0, .int .i64 0, .int .i64 0, .int .i64 0, .int .i64 0, .int .i64 0, .int .i64 0, .int .i64 0, .int .i64 0, .int .i64 0, .int .i64 0, .int .i64 0] 37 := BoxF.setAll (vs := [.int .i64 0, .int .i64 0, .int .i64 0, .int .i64 0, .int .i64 0, .int .i64 0, .int .i64 0, .int .i64 0, .int .i64 0, .int .i64 0, .int .i64 0, .int .i64 0, .int .i64 0, .int .i64 0, .int .i64 0]) K12.out.1
  generalize w12.setCells w.heap.size 0 [.int .i64 0, .int .i64 0, .int .i64 0, .int .i64 0, .int .i64 0, .int .i64 0, .int .i64 0, .int .i64 0, .int .i64 0, .int .i64 0, .int .i64 0, .int .i64 0, .int .i64 0, .int .i64 0, .int .i64 0] = W9 at *
  obtain ⟨z0, z1, z2, z3, z4, z5, z6, z7, z8, z9, z10, z11, z12, z13, z14, zf⟩ := XR.fifteen
  exact bodyPost_ret (v := .tuple #[.agg #[.int .i64 0, .int .i64 0, .int .i64 0, .int .i64 0, .int .i64 0, .int .i64 0, .int .i64 0, .int .i64 0, .int .i64 0, .int .i64 0, .int .i64 0, .int .i64 0, .int .i64 0, .int .i64 0, .int .i64 0], .bool false]) (by simp [results, Tryd.results73, go_sem, z0, z1, z2, z3, z4, z5, z6, z7, z8, z9, z10, z11, z12, z13, z14]) rfl ⟨rfl, BE.out⟩
set_option maxRecDepth 100000 in
set_option maxHeartbeats 8000000 in
theorem l6P_full_010_eq (z F R P0 Q0 P Q Od On T : ByteArray) (d l f s gc gk ga gt o n x c' k' a' t' : Int) (w : World) (hz : ¬ (240 : Int) < (z.size : Int))
    (hC : ∀ W, Calls Tryd.prog 113 #[.string z, .string ⟨#[44, 32]⟩] W fun e w' => e = .returned (.tuple #[.string F, .string R, .bool true]) ∧ ∃ q, w' = W.drewN q)
    (hF : ∀ W, Calls Tryd.prog 114 #[.string F] W (AnsF W d l f s true))
    (hG : ∀ W, Calls Tryd.prog 115 #[.string R] W (AnsF W gc gk ga gt false))
    (hB : ∀ W, Calls Tryd.prog 113 #[.string R, .string ⟨#[32, 98, 101, 116, 119, 101, 101, 110, 32]⟩] W fun e w' => e = .returned (.tuple #[.string P0, .string Q0, .bool false]) ∧ ∃ q, w' = W.drewN q)
    (hA : ∀ W, Calls Tryd.prog 113 #[.string R, .string ⟨#[32, 97, 98, 111, 118, 101, 32]⟩] W fun e w' => e = .returned (.tuple #[.string P, .string Q, .bool true]) ∧ ∃ q, w' = W.drewN q)
    (hO : ∀ W, Calls Tryd.prog 113 #[.string P, .string ⟨#[32, 99, 104, 97, 114, 103, 101, 100, 32, 119, 105, 116, 104, 32]⟩] W fun e w' => e = .returned (.tuple #[.string Od, .string On, .bool false]) ∧ ∃ q, w' = W.drewN q)
    (hP : ∀ W, Calls Tryd.prog 29 #[.string Od] W fun e w' => e = .returned (.tuple #[.int .i64 o, .int .i64 n, .int .i64 x, .bool true]) ∧ Below W.heap.size W w')
    (h2 : ∀ W, Calls Tryd.prog 115 #[.string Q] W (AnsF W c' k' a' t' true))
    (hV : ∀ W, Calls Tryd.prog 51 #[.agg #[.int .i64 d, .int .i64 l, .int .i64 f, .int .i64 s, .int .i64 o, .int .i64 n, .int .i64 x, .int .i64 0, .int .i64 0, .int .i64 0, .int .i64 0, .int .i64 c', .int .i64 k', .int .i64 a', .int .i64 t']] W fun e w' => e = .returned (.bool true) ∧ Below W.heap.size W w')
    (hT : ∀ W, Calls Tryd.prog 52 #[.agg #[.int .i64 d, .int .i64 l, .int .i64 f, .int .i64 s, .int .i64 o, .int .i64 n, .int .i64 x, .int .i64 0, .int .i64 0, .int .i64 0, .int .i64 0, .int .i64 c', .int .i64 k', .int .i64 a', .int .i64 t']] W fun e w' => e = .returned (.string T) ∧ Below W.heap.size W w')
    (hts : T = z) :
    Calls Tryd.prog 73 #[.string z] w (AnsA w d l f s o n x 0 0 0 0 c' k' a' t' true) := by
  have heq := str_eq hts
  clear hts
  have HC_ := Lib.hid hC
  have HF_ := Lib.hid hF
  have HG_ := Lib.hid hG
  have HB_ := Lib.hid hB
  have HA_ := Lib.hid hA
  have HO_ := Lib.hid hO
  have HP_ := Lib.hid hP
  have H2_ := Lib.hid h2
  have HV_ := Lib.hid hV
  have HT_ := Lib.hid hT
  clear hC hF hG hB hA hO hP h2 hV hT
  have K0 := Lib.hid (NK.new w)
  go_enter Tryd.func73, Tryd.ntmps73
  go_wp2_with fail
  refine (HC_.out _).mono ?_
  rintro e w1 ⟨rfl, q, rfl⟩
  have K1 := Lib.hid (K0.out.drewN q)
  clear K0 HC_
  go_wp2_with fail
  refine (HF_.out _).mono ?_
  rintro e w2 ⟨rfl, h2⟩
  have K2 := Lib.hid (K1.out.below h2)
  clear K1 HF_ h2
  have x3 := BoxF.new w2 [.int .i64 d, .int .i64 l, .int .i64 f, .int .i64 s] 33
  have K3 := K2.out.alloc (.cells #[.int .i64 d, .int .i64 l, .int .i64 f, .int .i64 s] 33 (0, 0))
  have K4 := Lib.hid (show MK w (w2.heap.size + 1) [.int .i64 d, .int .i64 l, .int .i64 f, .int .i64 s, .int .i64 0, .int .i64 0, .int .i64 0, .int .i64 0, .int .i64 0, .int .i64 0, .int .i64 0, .int .i64 0, .int .i64 0, .int .i64 0, .int .i64 0] ((w2.alloc (.cells #[.int .i64 d, .int .i64 l, .int .i64 f, .int .i64 s] 33 (0, 0))).alloc (.cells #[.int .i64 d, .int .i64 l, .int .i64 f, .int .i64 s, .int .i64 0, .int .i64 0, .int .i64 0, .int .i64 0, .int .i64 0, .int .i64 0, .int .i64 0, .int .i64 0, .int .i64 0, .int .i64 0, .int .i64 0] 37 (0, 0))) by have h := K3.mk [.int .i64 d, .int .i64 l, .int .i64 f, .int .i64 s, .int .i64 0, .int .i64 0, .int .i64 0, .int .i64 0, .int .i64 0, .int .i64 0, .int .i64 0, .int .i64 0, .int .i64 0, .int .i64 0, .int .i64 0] K3.two; simpa only [World.size_alloc] using h)
  obtain ⟨k0, k1, k2, k3, kf⟩ := x3.four
  clear K2 K3
  go_wp2_with fail
  clear k0 k1 k2 k3 kf x3
  refine (HG_.out _).mono ?_
  rintro e w5 ⟨rfl, h5⟩
  have K5 := Lib.hid ((K4.out.below h5).alloc (.cells #[.int .i64 gc, .int .i64 gk, .int .i64 ga, .int .i64 gt] 35 (0, 0)))
  clear K4 HG_ h5
  go_wp2_with fail
  refine (HB_.out _).mono ?_
  rintro e w6 ⟨rfl, q0, rfl⟩
  have KC0 := Lib.hid (K5.out.drewN (q0))
  clear HB_
  go_wp2_with fail
  refine (HA_.out _).mono ?_
  rintro e w6 ⟨rfl, q1, rfl⟩
  have KC1 := Lib.hid (K5.out.drewN (q0 + q1))
  clear HA_ KC0
  go_wp2_with fail
  refine (HO_.out _).mono ?_
  rintro e w6 ⟨rfl, q2, rfl⟩
  have KC2 := Lib.hid (K5.out.drewN (q0 + q1 + q2))
  clear HO_ KC1
  go_wp2_with fail
  clear K5
  refine (HP_.out _).mono ?_
  rintro e w7 ⟨rfl, h7⟩
  have K7 := Lib.hid (KC2.out.below h7)
  clear KC2 HP_ h7
  obtain ⟨x0, x1, x2, x3, x4, x5, x6, x7, x8, x9, x10, x11, x12, x13, x14, xf⟩ := K7.out.2.2.2.1.fifteen
  have K8 := Lib.hid (show MK w (w2.heap.size + 1) [.int .i64 d, .int .i64 l, .int .i64 f, .int .i64 s, .int .i64 o, .int .i64 n, .int .i64 x, .int .i64 0, .int .i64 0, .int .i64 0, .int .i64 0, .int .i64 0, .int .i64 0, .int .i64 0, .int .i64 0] (((w7.setCell ⟨w2.heap.size + 1, 4, none⟩ (.int .i64 o)).setCell ⟨w2.heap.size + 1, 5, none⟩ (.int .i64 n)).setCell ⟨w2.heap.size + 1, 6, none⟩ (.int .i64 x)) from K7.out.puts 4 [.int .i64 o, .int .i64 n, .int .i64 x])
  clear K7
  go_wp2_with fail
  clear x0 x1 x2 x3 x4 x5 x6 x7 x8 x9 x10 x11 x12 x13 x14 xf
  refine (H2_.out _).mono ?_
  rintro e w11 ⟨rfl, hh⟩
  have K11a := Lib.hid (K8.out.below hh)
  clear K8 H2_ hh
  have t_ := K11a.out.2.2.2.1.therM 11 4 (by simp)
  have K11 := Lib.hid (show MK w (w2.heap.size + 1) [.int .i64 d, .int .i64 l, .int .i64 f, .int .i64 s, .int .i64 o, .int .i64 n, .int .i64 x, .int .i64 0, .int .i64 0, .int .i64 0, .int .i64 0, .int .i64 c', .int .i64 k', .int .i64 a', .int .i64 t'] (w11.setCells (w2.heap.size + 1) 11 [.int .i64 c', .int .i64 k', .int .i64 a', .int .i64 t']) from K11a.out.put 11 [.int .i64 c', .int .i64 k', .int .i64 a', .int .i64 t'])
  clear K11a
  have hx := K11.out.2.2.2.1.fifteen
  obtain ⟨u0, u1, u2, u3, u4, u5, u6, u7, u8, u9, u10, u11, u12, u13, u14, uf⟩ := hx
  go_wp2_with (with_reducible refine isList ?_; (set_option maxRecDepth 100000 in refine stG 112 110 (w2.heap.size + 1) 11 [.int .i64 c', .int .i64 k', .int .i64 a', .int .i64 t'] rfl rfl rfl rfl rfl ?_ ?_ ?_); exact t_; simp [Value.oneCell'])
  clear t_
  clear u0 u1 u2 u3 u4 u5 u6 u7 u8 u9 u10 u11 u12 u13 u14 uf
  refine (HV_.out _).mono ?_
  rintro e w12 ⟨rfl, hh⟩
  have K12 := Lib.hid (K11.out.below hh)
  clear K11 HV_ hh
  have hx := K12.out.2.2.2.1.fifteen
  obtain ⟨u0, u1, u2, u3, u4, u5, u6, u7, u8, u9, u10, u11, u12, u13, u14, uf⟩ := hx
  go_wp2_with fail
  clear u0 u1 u2 u3 u4 u5 u6 u7 u8 u9 u10 u11 u12 u13 u14 uf
  refine (HT_.out _).mono ?_
  rintro e w13 ⟨rfl, hh⟩
  have K13 := Lib.hid (K12.out.below hh)
  clear K12 HT_ hh
  have r9 := K13.out.2.2.2.1.range
  have t9 := K13.out.1.ther (n := 15) rfl
  go_wp2_with (first | (with_reducible refine isList ?_; refine ld15 10 (w2.heap.size + 1) [.int .i64 d, .int .i64 l, .int .i64 f, .int .i64 s, .int .i64 o, .int .i64 n, .int .i64 x, .int .i64 0, .int .i64 0, .int .i64 0, .int .i64 0, .int .i64 c', .int .i64 k', .int .i64 a', .int .i64 t'] rfl rfl rfl rfl ?_ ?_; exact r9) | (with_reducible refine isList ?_; (set_option maxRecDepth 100000 in refine st15 2 127 w.heap.size [.int .i64 d, .int .i64 l, .int .i64 f, .int .i64 s, .int .i64 o, .int .i64 n, .int .i64 x, .int .i64 0, .int .i64 0, .int .i64 0, .int .i64 0, .int .i64 c', .int .i64 k', .int .i64 a', .int .i64 t'] rfl rfl rfl rfl rfl ?_ ?_ ?_); exact t9; simp [Value.oneCell']))
  have g9 := setc_grownC w13 w.heap.size [.int .i64 d, .int .i64 l, .int .i64 f, .int .i64 s, .int .i64 o, .int .i64 n, .int .i64 x, .int .i64 0, .int .i64 0, .int .i64 0, .int .i64 0, .int .i64 c', .int .i64 k', .int .i64 a', .int .i64 t']
  have BE := Lib.hid ((K13.out).bel.grown g9 (K13.out).bel.size (fun q hq => by cases hq; exact Nat.le_refl _))
  have XR : BoxF (w13.setCells w.heap.size 0 [.int .i64 d, .int .i64 l, .int .i64 f, .int .i64 s, .int .i64 o, .int .i64 n, .int .i64 x, .int .i64 0, .int .i64 0, .int .i64 0, .int .i64 0, .int .i64 c', .int .i64 k', .int .i64 a', .int .i64 t']) w.heap.size [.int .i64 d, .int .i64 l, .int .i64 f, .int .i64 s, .int .i64 o, .int .i64 n, .int .i64 x, .int .i64 0, .int .i64 0, .int .i64 0, .int .i64 0, .int .i64 c', .int .i64 k', .int .i64 a', .int .i64 t'] 37 := BoxF.setAll (vs := [.int .i64 d, .int .i64 l, .int .i64 f, .int .i64 s, .int .i64 o, .int .i64 n, .int .i64 x, .int .i64 0, .int .i64 0, .int .i64 0, .int .i64 0, .int .i64 c', .int .i64 k', .int .i64 a', .int .i64 t']) K13.out.1
  generalize w13.setCells w.heap.size 0 [.int .i64 d, .int .i64 l, .int .i64 f, .int .i64 s, .int .i64 o, .int .i64 n, .int .i64 x, .int .i64 0, .int .i64 0, .int .i64 0, .int .i64 0, .int .i64 c', .int .i64 k', .int .i64 a', .int .i64 t'] = W9 at *
  obtain ⟨z0, z1, z2, z3, z4, z5, z6, z7, z8, z9, z10, z11, z12, z13, z14, zf⟩ := XR.fifteen
  exact bodyPost_ret (v := .tuple #[.agg #[.int .i64 d, .int .i64 l, .int .i64 f, .int .i64 s, .int .i64 o, .int .i64 n, .int .i64 x, .int .i64 0, .int .i64 0, .int .i64 0, .int .i64 0, .int .i64 c', .int .i64 k', .int .i64 a', .int .i64 t'], .bool true]) (by simp [results, Tryd.results73, go_sem, z0, z1, z2, z3, z4, z5, z6, z7, z8, z9, z10, z11, z12, z13, z14]) rfl ⟨rfl, BE.out⟩
set_option maxRecDepth 100000 in
set_option maxHeartbeats 8000000 in
theorem l6P_full_010_ne (z F R P0 Q0 P Q Od On T : ByteArray) (d l f s gc gk ga gt o n x c' k' a' t' : Int) (w : World) (hz : ¬ (240 : Int) < (z.size : Int))
    (hC : ∀ W, Calls Tryd.prog 113 #[.string z, .string ⟨#[44, 32]⟩] W fun e w' => e = .returned (.tuple #[.string F, .string R, .bool true]) ∧ ∃ q, w' = W.drewN q)
    (hF : ∀ W, Calls Tryd.prog 114 #[.string F] W (AnsF W d l f s true))
    (hG : ∀ W, Calls Tryd.prog 115 #[.string R] W (AnsF W gc gk ga gt false))
    (hB : ∀ W, Calls Tryd.prog 113 #[.string R, .string ⟨#[32, 98, 101, 116, 119, 101, 101, 110, 32]⟩] W fun e w' => e = .returned (.tuple #[.string P0, .string Q0, .bool false]) ∧ ∃ q, w' = W.drewN q)
    (hA : ∀ W, Calls Tryd.prog 113 #[.string R, .string ⟨#[32, 97, 98, 111, 118, 101, 32]⟩] W fun e w' => e = .returned (.tuple #[.string P, .string Q, .bool true]) ∧ ∃ q, w' = W.drewN q)
    (hO : ∀ W, Calls Tryd.prog 113 #[.string P, .string ⟨#[32, 99, 104, 97, 114, 103, 101, 100, 32, 119, 105, 116, 104, 32]⟩] W fun e w' => e = .returned (.tuple #[.string Od, .string On, .bool false]) ∧ ∃ q, w' = W.drewN q)
    (hP : ∀ W, Calls Tryd.prog 29 #[.string Od] W fun e w' => e = .returned (.tuple #[.int .i64 o, .int .i64 n, .int .i64 x, .bool true]) ∧ Below W.heap.size W w')
    (h2 : ∀ W, Calls Tryd.prog 115 #[.string Q] W (AnsF W c' k' a' t' true))
    (hV : ∀ W, Calls Tryd.prog 51 #[.agg #[.int .i64 d, .int .i64 l, .int .i64 f, .int .i64 s, .int .i64 o, .int .i64 n, .int .i64 x, .int .i64 0, .int .i64 0, .int .i64 0, .int .i64 0, .int .i64 c', .int .i64 k', .int .i64 a', .int .i64 t']] W fun e w' => e = .returned (.bool true) ∧ Below W.heap.size W w')
    (hT : ∀ W, Calls Tryd.prog 52 #[.agg #[.int .i64 d, .int .i64 l, .int .i64 f, .int .i64 s, .int .i64 o, .int .i64 n, .int .i64 x, .int .i64 0, .int .i64 0, .int .i64 0, .int .i64 0, .int .i64 c', .int .i64 k', .int .i64 a', .int .i64 t']] W fun e w' => e = .returned (.string T) ∧ Below W.heap.size W w')
    (hts : T ≠ z) :
    Calls Tryd.prog 73 #[.string z] w (AnsA w 0 0 0 0 0 0 0 0 0 0 0 0 0 0 0 false) := by
  have hne := str_ne hts
  clear hts
  have HC_ := Lib.hid hC
  have HF_ := Lib.hid hF
  have HG_ := Lib.hid hG
  have HB_ := Lib.hid hB
  have HA_ := Lib.hid hA
  have HO_ := Lib.hid hO
  have HP_ := Lib.hid hP
  have H2_ := Lib.hid h2
  have HV_ := Lib.hid hV
  have HT_ := Lib.hid hT
  clear hC hF hG hB hA hO hP h2 hV hT
  have K0 := Lib.hid (NK.new w)
  go_enter Tryd.func73, Tryd.ntmps73
  go_wp2_with fail
  refine (HC_.out _).mono ?_
  rintro e w1 ⟨rfl, q, rfl⟩
  have K1 := Lib.hid (K0.out.drewN q)
  clear K0 HC_
  go_wp2_with fail
  refine (HF_.out _).mono ?_
  rintro e w2 ⟨rfl, h2⟩
  have K2 := Lib.hid (K1.out.below h2)
  clear K1 HF_ h2
  have x3 := BoxF.new w2 [.int .i64 d, .int .i64 l, .int .i64 f, .int .i64 s] 33
  have K3 := K2.out.alloc (.cells #[.int .i64 d, .int .i64 l, .int .i64 f, .int .i64 s] 33 (0, 0))
  have K4 := Lib.hid (show MK w (w2.heap.size + 1) [.int .i64 d, .int .i64 l, .int .i64 f, .int .i64 s, .int .i64 0, .int .i64 0, .int .i64 0, .int .i64 0, .int .i64 0, .int .i64 0, .int .i64 0, .int .i64 0, .int .i64 0, .int .i64 0, .int .i64 0] ((w2.alloc (.cells #[.int .i64 d, .int .i64 l, .int .i64 f, .int .i64 s] 33 (0, 0))).alloc (.cells #[.int .i64 d, .int .i64 l, .int .i64 f, .int .i64 s, .int .i64 0, .int .i64 0, .int .i64 0, .int .i64 0, .int .i64 0, .int .i64 0, .int .i64 0, .int .i64 0, .int .i64 0, .int .i64 0, .int .i64 0] 37 (0, 0))) by have h := K3.mk [.int .i64 d, .int .i64 l, .int .i64 f, .int .i64 s, .int .i64 0, .int .i64 0, .int .i64 0, .int .i64 0, .int .i64 0, .int .i64 0, .int .i64 0, .int .i64 0, .int .i64 0, .int .i64 0, .int .i64 0] K3.two; simpa only [World.size_alloc] using h)
  obtain ⟨k0, k1, k2, k3, kf⟩ := x3.four
  clear K2 K3
  go_wp2_with fail
  clear k0 k1 k2 k3 kf x3
  refine (HG_.out _).mono ?_
  rintro e w5 ⟨rfl, h5⟩
  have K5 := Lib.hid ((K4.out.below h5).alloc (.cells #[.int .i64 gc, .int .i64 gk, .int .i64 ga, .int .i64 gt] 35 (0, 0)))
  clear K4 HG_ h5
  go_wp2_with fail
  refine (HB_.out _).mono ?_
  rintro e w6 ⟨rfl, q0, rfl⟩
  have KC0 := Lib.hid (K5.out.drewN (q0))
  clear HB_
  go_wp2_with fail
  refine (HA_.out _).mono ?_
  rintro e w6 ⟨rfl, q1, rfl⟩
  have KC1 := Lib.hid (K5.out.drewN (q0 + q1))
  clear HA_ KC0
  go_wp2_with fail
  refine (HO_.out _).mono ?_
  rintro e w6 ⟨rfl, q2, rfl⟩
  have KC2 := Lib.hid (K5.out.drewN (q0 + q1 + q2))
  clear HO_ KC1
  go_wp2_with fail
  clear K5
  refine (HP_.out _).mono ?_
  rintro e w7 ⟨rfl, h7⟩
  have K7 := Lib.hid (KC2.out.below h7)
  clear KC2 HP_ h7
  obtain ⟨x0, x1, x2, x3, x4, x5, x6, x7, x8, x9, x10, x11, x12, x13, x14, xf⟩ := K7.out.2.2.2.1.fifteen
  have K8 := Lib.hid (show MK w (w2.heap.size + 1) [.int .i64 d, .int .i64 l, .int .i64 f, .int .i64 s, .int .i64 o, .int .i64 n, .int .i64 x, .int .i64 0, .int .i64 0, .int .i64 0, .int .i64 0, .int .i64 0, .int .i64 0, .int .i64 0, .int .i64 0] (((w7.setCell ⟨w2.heap.size + 1, 4, none⟩ (.int .i64 o)).setCell ⟨w2.heap.size + 1, 5, none⟩ (.int .i64 n)).setCell ⟨w2.heap.size + 1, 6, none⟩ (.int .i64 x)) from K7.out.puts 4 [.int .i64 o, .int .i64 n, .int .i64 x])
  clear K7
  go_wp2_with fail
  clear x0 x1 x2 x3 x4 x5 x6 x7 x8 x9 x10 x11 x12 x13 x14 xf
  refine (H2_.out _).mono ?_
  rintro e w11 ⟨rfl, hh⟩
  have K11a := Lib.hid (K8.out.below hh)
  clear K8 H2_ hh
  have t_ := K11a.out.2.2.2.1.therM 11 4 (by simp)
  have K11 := Lib.hid (show MK w (w2.heap.size + 1) [.int .i64 d, .int .i64 l, .int .i64 f, .int .i64 s, .int .i64 o, .int .i64 n, .int .i64 x, .int .i64 0, .int .i64 0, .int .i64 0, .int .i64 0, .int .i64 c', .int .i64 k', .int .i64 a', .int .i64 t'] (w11.setCells (w2.heap.size + 1) 11 [.int .i64 c', .int .i64 k', .int .i64 a', .int .i64 t']) from K11a.out.put 11 [.int .i64 c', .int .i64 k', .int .i64 a', .int .i64 t'])
  clear K11a
  have hx := K11.out.2.2.2.1.fifteen
  obtain ⟨u0, u1, u2, u3, u4, u5, u6, u7, u8, u9, u10, u11, u12, u13, u14, uf⟩ := hx
  go_wp2_with (with_reducible refine isList ?_; (set_option maxRecDepth 100000 in refine stG 112 110 (w2.heap.size + 1) 11 [.int .i64 c', .int .i64 k', .int .i64 a', .int .i64 t'] rfl rfl rfl rfl rfl ?_ ?_ ?_); exact t_; simp [Value.oneCell'])
  clear t_
  clear u0 u1 u2 u3 u4 u5 u6 u7 u8 u9 u10 u11 u12 u13 u14 uf
  refine (HV_.out _).mono ?_
  rintro e w12 ⟨rfl, hh⟩
  have K12 := Lib.hid (K11.out.below hh)
  clear K11 HV_ hh
  have hx := K12.out.2.2.2.1.fifteen
  obtain ⟨u0, u1, u2, u3, u4, u5, u6, u7, u8, u9, u10, u11, u12, u13, u14, uf⟩ := hx
  go_wp2_with fail
  clear u0 u1 u2 u3 u4 u5 u6 u7 u8 u9 u10 u11 u12 u13 u14 uf
  refine (HT_.out _).mono ?_
  rintro e w13 ⟨rfl, hh⟩
  have K13 := Lib.hid (K12.out.below hh)
  clear K12 HT_ hh
  have r9 := K13.out.2.1.range
  have t9 := K13.out.1.ther (n := 15) rfl
  go_wp2_with (first | (with_reducible refine isList ?_; refine ld15 4 (w.heap.size + 1) [.int .i64 0, .int .i64 0, .int .i64 0, .int .i64 0, .int .i64 0, .int .i64 0, .int .i64 0, .int .i64 0, .int .i64 0, .int .i64 0, .int .i64 0, .int .i64 0, .int .i64 0, .int .i64 0, .int .i64 0] rfl rfl rfl rfl ?_ ?_; exact r9) | (with_reducible refine isList ?_; (set_option maxRecDepth 100000 in refine st15 2 126 w.heap.size [.int .i64 0, .int .i64 0, .int .i64 0, .int .i64 0, .int .i64 0, .int .i64 0, .int .i64 0, .int .i64 0, .int .i64 0, .int .i64 0, .int .i64 0, .int .i64 0, .int .i64 0, .int .i64 0, .int .i64 0] rfl rfl rfl rfl rfl ?_ ?_ ?_); exact t9; simp [Value.oneCell']))
  have g9 := setc_grownC w13 w.heap.size [.int .i64 0, .int .i64 0, .int .i64 0, .int .i64 0, .int .i64 0, .int .i64 0, .int .i64 0, .int .i64 0, .int .i64 0, .int .i64 0, .int .i64 0, .int .i64 0, .int .i64 0, .int .i64 0, .int .i64 0]
  have BE := Lib.hid ((K13.out).bel.grown g9 (K13.out).bel.size (fun q hq => by cases hq; exact Nat.le_refl _))
  have XR : BoxF (w13.setCells w.heap.size 0 [.int .i64 0, .int .i64 0, .int .i64 0, .int .i64 0, .int .i64 0, .int .i64 0, .int .i64 0, .int .i64 0, .int .i64 0, .int .i64 0, .int .i64 0, .int .i64 0, .int .i64 0, .int .i64 0, .int .i64 0]) w.heap.size [.int .i64 0, .int .i64 0, .int .i64 0, .int .i64 0, .int .i64 0, .int .i64 0, .int .i64 0, .int .i64 0, .int .i64 0, .int .i64 0, .int .i64 0, .int .i64 0, .int .i64 0, .int .i64 0, .int .i64 0] 37 := BoxF.setAll (vs := [.int .i64 0, .int .i64 0, .int .i64 0, .int .i64 0, .int .i64 0, .int .i64 0, .int .i64 0, .int .i64 0, .int .i64 0, .int .i64 0, .int .i64 0, .int .i64 0, .int .i64 0, .int .i64 0, .int .i64 0]) K13.out.1
  generalize w13.setCells w.heap.size 0 [.int .i64 0, .int .i64 0, .int .i64 0, .int .i64 0, .int .i64 0, .int .i64 0, .int .i64 0, .int .i64 0, .int .i64 0, .int .i64 0, .int .i64 0, .int .i64 0, .int .i64 0, .int .i64 0, .int .i64 0] = W9 at *
  obtain ⟨z0, z1, z2, z3, z4, z5, z6, z7, z8, z9, z10, z11, z12, z13, z14, zf⟩ := XR.fifteen
  exact bodyPost_ret (v := .tuple #[.agg #[.int .i64 0, .int .i64 0, .int .i64 0, .int .i64 0, .int .i64 0, .int .i64 0, .int .i64 0, .int .i64 0, .int .i64 0, .int .i64 0, .int .i64 0, .int .i64 0, .int .i64 0, .int .i64 0, .int .i64 0], .bool false]) (by simp [results, Tryd.results73, go_sem, z0, z1, z2, z3, z4, z5, z6, z7, z8, z9, z10, z11, z12, z13, z14]) rfl ⟨rfl, BE.out⟩
theorem l6P_full_010 (z F R P0 Q0 P Q Od On T : ByteArray) (d l f s gc gk ga gt o n x c' k' a' t' : Int) (ook g2 r v : Bool) (w : World) (hz : ¬ (240 : Int) < (z.size : Int))
    (hC : ∀ W, Calls Tryd.prog 113 #[.string z, .string ⟨#[44, 32]⟩] W fun e w' => e = .returned (.tuple #[.string F, .string R, .bool true]) ∧ ∃ q, w' = W.drewN q)
    (hF : ∀ W, Calls Tryd.prog 114 #[.string F] W (AnsF W d l f s true))
    (hG : ∀ W, Calls Tryd.prog 115 #[.string R] W (AnsF W gc gk ga gt false))
    (hB : ∀ W, Calls Tryd.prog 113 #[.string R, .string ⟨#[32, 98, 101, 116, 119, 101, 101, 110, 32]⟩] W fun e w' => e = .returned (.tuple #[.string P0, .string Q0, .bool false]) ∧ ∃ q, w' = W.drewN q)
    (hA : ∀ W, Calls Tryd.prog 113 #[.string R, .string ⟨#[32, 97, 98, 111, 118, 101, 32]⟩] W fun e w' => e = .returned (.tuple #[.string P, .string Q, .bool true]) ∧ ∃ q, w' = W.drewN q)
    (hO : ∀ W, Calls Tryd.prog 113 #[.string P, .string ⟨#[32, 99, 104, 97, 114, 103, 101, 100, 32, 119, 105, 116, 104, 32]⟩] W fun e w' => e = .returned (.tuple #[.string Od, .string On, .bool false]) ∧ ∃ q, w' = W.drewN q)
    (hP : ∀ W, Calls Tryd.prog 29 #[.string Od] W fun e w' => e = .returned (.tuple #[.int .i64 o, .int .i64 n, .int .i64 x, .bool ook]) ∧ Below W.heap.size W w')
    (h2 : ∀ W, Calls Tryd.prog 115 #[.string Q] W (AnsF W c' k' a' t' g2))
    (hV : ∀ W, Calls Tryd.prog 51 #[.agg #[.int .i64 d, .int .i64 l, .int .i64 f, .int .i64 s, .int .i64 o, .int .i64 n, .int .i64 x, .int .i64 0, .int .i64 0, .int .i64 0, .int .i64 0, .int .i64 c', .int .i64 k', .int .i64 a', .int .i64 t']] W fun e w' => e = .returned (.bool r) ∧ Below W.heap.size W w')
    (hT : r = true → ∀ W, Calls Tryd.prog 52 #[.agg #[.int .i64 d, .int .i64 l, .int .i64 f, .int .i64 s, .int .i64 o, .int .i64 n, .int .i64 x, .int .i64 0, .int .i64 0, .int .i64 0, .int .i64 0, .int .i64 c', .int .i64 k', .int .i64 a', .int .i64 t']] W fun e w' => e = .returned (.string T) ∧ Below W.heap.size W w')
    (hv : (ook && (g2 && (r && decide (T = z)))) = v) :
    Calls Tryd.prog 73 #[.string z] w (if v = true then AnsA w d l f s o n x 0 0 0 0 c' k' a' t' true else AnsA w 0 0 0 0 0 0 0 0 0 0 0 0 0 0 0 false) := by
  cases ook
  · obtain rfl : v = false := by simpa using hv.symm
    exact l6P_full_010_ook z F R P0 Q0 P Q Od On d l f s gc gk ga gt o n x w hz hC hF hG hB hA hO hP
  cases g2
  · obtain rfl : v = false := by simpa using hv.symm
    exact l6P_full_010_g2 z F R P0 Q0 P Q Od On d l f s gc gk ga gt o n x c' k' a' t' w hz hC hF hG hB hA hO hP h2
  cases r
  · obtain rfl : v = false := by simpa using hv.symm
    exact l6P_full_010_r z F R P0 Q0 P Q Od On d l f s gc gk ga gt o n x c' k' a' t' w hz hC hF hG hB hA hO hP h2 hV
  by_cases hts : T = z
  · obtain rfl : v = true := by rw [← hv]; simp [hts]
    exact l6P_full_010_eq z F R P0 Q0 P Q Od On T d l f s gc gk ga gt o n x c' k' a' t' w hz hC hF hG hB hA hO hP h2 hV (hT rfl) hts
  · obtain rfl : v = false := by rw [← hv]; simp [hts]
    exact l6P_full_010_ne z F R P0 Q0 P Q Od On T d l f s gc gk ga gt o n x c' k' a' t' w hz hC hF hG hB hA hO hP h2 hV (hT rfl) hts
set_option maxRecDepth 100000 in
set_option maxHeartbeats 8000000 in
theorem l6P_full_011_ook (z F R P0 Q0 P Q Od On : ByteArray) (d l f s gc gk ga gt o n x : Int) (w : World) (hz : ¬ (240 : Int) < (z.size : Int))
    (hC : ∀ W, Calls Tryd.prog 113 #[.string z, .string ⟨#[44, 32]⟩] W fun e w' => e = .returned (.tuple #[.string F, .string R, .bool true]) ∧ ∃ q, w' = W.drewN q)
    (hF : ∀ W, Calls Tryd.prog 114 #[.string F] W (AnsF W d l f s true))
    (hG : ∀ W, Calls Tryd.prog 115 #[.string R] W (AnsF W gc gk ga gt false))
    (hB : ∀ W, Calls Tryd.prog 113 #[.string R, .string ⟨#[32, 98, 101, 116, 119, 101, 101, 110, 32]⟩] W fun e w' => e = .returned (.tuple #[.string P0, .string Q0, .bool false]) ∧ ∃ q, w' = W.drewN q)
    (hA : ∀ W, Calls Tryd.prog 113 #[.string R, .string ⟨#[32, 97, 98, 111, 118, 101, 32]⟩] W fun e w' => e = .returned (.tuple #[.string P, .string Q, .bool true]) ∧ ∃ q, w' = W.drewN q)
    (hO : ∀ W, Calls Tryd.prog 113 #[.string P, .string ⟨#[32, 99, 104, 97, 114, 103, 101, 100, 32, 119, 105, 116, 104, 32]⟩] W fun e w' => e = .returned (.tuple #[.string Od, .string On, .bool true]) ∧ ∃ q, w' = W.drewN q)
    (hP : ∀ W, Calls Tryd.prog 29 #[.string Od] W fun e w' => e = .returned (.tuple #[.int .i64 o, .int .i64 n, .int .i64 x, .bool false]) ∧ Below W.heap.size W w') :
    Calls Tryd.prog 73 #[.string z] w (AnsA w 0 0 0 0 0 0 0 0 0 0 0 0 0 0 0 false) := by
  have HC_ := Lib.hid hC
  have HF_ := Lib.hid hF
  have HG_ := Lib.hid hG
  have HB_ := Lib.hid hB
  have HA_ := Lib.hid hA
  have HO_ := Lib.hid hO
  have HP_ := Lib.hid hP
  clear hC hF hG hB hA hO hP
  have K0 := Lib.hid (NK.new w)
  go_enter Tryd.func73, Tryd.ntmps73
  go_wp2_with fail
  refine (HC_.out _).mono ?_
  rintro e w1 ⟨rfl, q, rfl⟩
  have K1 := Lib.hid (K0.out.drewN q)
  clear K0 HC_
  go_wp2_with fail
  refine (HF_.out _).mono ?_
  rintro e w2 ⟨rfl, h2⟩
  have K2 := Lib.hid (K1.out.below h2)
  clear K1 HF_ h2
  have x3 := BoxF.new w2 [.int .i64 d, .int .i64 l, .int .i64 f, .int .i64 s] 33
  have K3 := K2.out.alloc (.cells #[.int .i64 d, .int .i64 l, .int .i64 f, .int .i64 s] 33 (0, 0))
  have K4 := Lib.hid (show MK w (w2.heap.size + 1) [.int .i64 d, .int .i64 l, .int .i64 f, .int .i64 s, .int .i64 0, .int .i64 0, .int .i64 0, .int .i64 0, .int .i64 0, .int .i64 0, .int .i64 0, .int .i64 0, .int .i64 0, .int .i64 0, .int .i64 0] ((w2.alloc (.cells #[.int .i64 d, .int .i64 l, .int .i64 f, .int .i64 s] 33 (0, 0))).alloc (.cells #[.int .i64 d, .int .i64 l, .int .i64 f, .int .i64 s, .int .i64 0, .int .i64 0, .int .i64 0, .int .i64 0, .int .i64 0, .int .i64 0, .int .i64 0, .int .i64 0, .int .i64 0, .int .i64 0, .int .i64 0] 37 (0, 0))) by have h := K3.mk [.int .i64 d, .int .i64 l, .int .i64 f, .int .i64 s, .int .i64 0, .int .i64 0, .int .i64 0, .int .i64 0, .int .i64 0, .int .i64 0, .int .i64 0, .int .i64 0, .int .i64 0, .int .i64 0, .int .i64 0] K3.two; simpa only [World.size_alloc] using h)
  obtain ⟨k0, k1, k2, k3, kf⟩ := x3.four
  clear K2 K3
  go_wp2_with fail
  clear k0 k1 k2 k3 kf x3
  refine (HG_.out _).mono ?_
  rintro e w5 ⟨rfl, h5⟩
  have K5 := Lib.hid ((K4.out.below h5).alloc (.cells #[.int .i64 gc, .int .i64 gk, .int .i64 ga, .int .i64 gt] 35 (0, 0)))
  clear K4 HG_ h5
  go_wp2_with fail
  refine (HB_.out _).mono ?_
  rintro e w6 ⟨rfl, q0, rfl⟩
  have KC0 := Lib.hid (K5.out.drewN (q0))
  clear HB_
  go_wp2_with fail
  refine (HA_.out _).mono ?_
  rintro e w6 ⟨rfl, q1, rfl⟩
  have KC1 := Lib.hid (K5.out.drewN (q0 + q1))
  clear HA_ KC0
  go_wp2_with fail
  refine (HO_.out _).mono ?_
  rintro e w6 ⟨rfl, q2, rfl⟩
  have KC2 := Lib.hid (K5.out.drewN (q0 + q1 + q2))
  clear HO_ KC1
  go_wp2_with fail
  clear K5
  refine (HP_.out _).mono ?_
  rintro e w7 ⟨rfl, h7⟩
  have K7 := Lib.hid (KC2.out.below h7)
  clear KC2 HP_ h7
  have r9 := K7.out.2.1.range
  have t9 := K7.out.1.ther (n := 15) rfl
  go_wp2_with (first | (with_reducible refine isList ?_; refine ld15 4 (w.heap.size + 1) [.int .i64 0, .int .i64 0, .int .i64 0, .int .i64 0, .int .i64 0, .int .i64 0, .int .i64 0, .int .i64 0, .int .i64 0, .int .i64 0, .int .i64 0, .int .i64 0, .int .i64 0, .int .i64 0, .int .i64 0] rfl rfl rfl rfl ?_ ?_; exact r9) | (with_reducible refine isList ?_; (set_option maxRecDepth 100000 in refine st15 2 89 w.heap.size [.int .i64 0, .int .i64 0, .int .i64 0, .int .i64 0, .int .i64 0, .int .i64 0, .int .i64 0, .int .i64 0, .int .i64 0, .int .i64 0, .int .i64 0, .int .i64 0, .int .i64 0, .int .i64 0, .int .i64 0] rfl rfl rfl rfl rfl ?_ ?_ ?_); exact t9; simp [Value.oneCell']))
  have g9 := setc_grownC w7 w.heap.size [.int .i64 0, .int .i64 0, .int .i64 0, .int .i64 0, .int .i64 0, .int .i64 0, .int .i64 0, .int .i64 0, .int .i64 0, .int .i64 0, .int .i64 0, .int .i64 0, .int .i64 0, .int .i64 0, .int .i64 0]
  have BE := Lib.hid ((K7.out).bel.grown g9 (K7.out).bel.size (fun q hq => by cases hq; exact Nat.le_refl _))
  have XR : BoxF (w7.setCells w.heap.size 0 [.int .i64 0, .int .i64 0, .int .i64 0, .int .i64 0, .int .i64 0, .int .i64 0, .int .i64 0, .int .i64 0, .int .i64 0, .int .i64 0, .int .i64 0, .int .i64 0, .int .i64 0, .int .i64 0, .int .i64 0]) w.heap.size [.int .i64 0, .int .i64 0, .int .i64 0, .int .i64 0, .int .i64 0, .int .i64 0, .int .i64 0, .int .i64 0, .int .i64 0, .int .i64 0, .int .i64 0, .int .i64 0, .int .i64 0, .int .i64 0, .int .i64 0] 37 := BoxF.setAll (vs := [.int .i64 0, .int .i64 0, .int .i64 0, .int .i64 0, .int .i64 0, .int .i64 0, .int .i64 0, .int .i64 0, .int .i64 0, .int .i64 0, .int .i64 0, .int .i64 0, .int .i64 0, .int .i64 0, .int .i64 0]) K7.out.1
  generalize w7.setCells w.heap.size 0 [.int .i64 0, .int .i64 0, .int .i64 0, .int .i64 0, .int .i64 0, .int .i64 0, .int .i64 0, .int .i64 0, .int .i64 0, .int .i64 0, .int .i64 0, .int .i64 0, .int .i64 0, .int .i64 0, .int .i64 0] = W9 at *
  obtain ⟨z0, z1, z2, z3, z4, z5, z6, z7, z8, z9, z10, z11, z12, z13, z14, zf⟩ := XR.fifteen
  exact bodyPost_ret (v := .tuple #[.agg #[.int .i64 0, .int .i64 0, .int .i64 0, .int .i64 0, .int .i64 0, .int .i64 0, .int .i64 0, .int .i64 0, .int .i64 0, .int .i64 0, .int .i64 0, .int .i64 0, .int .i64 0, .int .i64 0, .int .i64 0], .bool false]) (by simp [results, Tryd.results73, go_sem, z0, z1, z2, z3, z4, z5, z6, z7, z8, z9, z10, z11, z12, z13, z14]) rfl ⟨rfl, BE.out⟩
set_option maxRecDepth 100000 in
set_option maxHeartbeats 8000000 in
theorem l6P_full_011_g1 (z F R P0 Q0 P Q Od On : ByteArray) (d l f s gc gk ga gt o n x c k a t : Int) (w : World) (hz : ¬ (240 : Int) < (z.size : Int))
    (hC : ∀ W, Calls Tryd.prog 113 #[.string z, .string ⟨#[44, 32]⟩] W fun e w' => e = .returned (.tuple #[.string F, .string R, .bool true]) ∧ ∃ q, w' = W.drewN q)
    (hF : ∀ W, Calls Tryd.prog 114 #[.string F] W (AnsF W d l f s true))
    (hG : ∀ W, Calls Tryd.prog 115 #[.string R] W (AnsF W gc gk ga gt false))
    (hB : ∀ W, Calls Tryd.prog 113 #[.string R, .string ⟨#[32, 98, 101, 116, 119, 101, 101, 110, 32]⟩] W fun e w' => e = .returned (.tuple #[.string P0, .string Q0, .bool false]) ∧ ∃ q, w' = W.drewN q)
    (hA : ∀ W, Calls Tryd.prog 113 #[.string R, .string ⟨#[32, 97, 98, 111, 118, 101, 32]⟩] W fun e w' => e = .returned (.tuple #[.string P, .string Q, .bool true]) ∧ ∃ q, w' = W.drewN q)
    (hO : ∀ W, Calls Tryd.prog 113 #[.string P, .string ⟨#[32, 99, 104, 97, 114, 103, 101, 100, 32, 119, 105, 116, 104, 32]⟩] W fun e w' => e = .returned (.tuple #[.string Od, .string On, .bool true]) ∧ ∃ q, w' = W.drewN q)
    (hP : ∀ W, Calls Tryd.prog 29 #[.string Od] W fun e w' => e = .returned (.tuple #[.int .i64 o, .int .i64 n, .int .i64 x, .bool true]) ∧ Below W.heap.size W w')
    (h1 : ∀ W, Calls Tryd.prog 115 #[.string On] W (AnsF W c k a t false)) :
    Calls Tryd.prog 73 #[.string z] w (AnsA w 0 0 0 0 0 0 0 0 0 0 0 0 0 0 0 false) := by
  have HC_ := Lib.hid hC
  have HF_ := Lib.hid hF
  have HG_ := Lib.hid hG
  have HB_ := Lib.hid hB
  have HA_ := Lib.hid hA
  have HO_ := Lib.hid hO
  have HP_ := Lib.hid hP
  have H1_ := Lib.hid h1
  clear hC hF hG hB hA hO hP h1
  have K0 := Lib.hid (NK.new w)
  go_enter Tryd.func73, Tryd.ntmps73
  go_wp2_with fail
  refine (HC_.out _).mono ?_
  rintro e w1 ⟨rfl, q, rfl⟩
  have K1 := Lib.hid (K0.out.drewN q)
  clear K0 HC_
  go_wp2_with fail
  refine (HF_.out _).mono ?_
  rintro e w2 ⟨rfl, h2⟩
  have K2 := Lib.hid (K1.out.below h2)
  clear K1 HF_ h2
  have x3 := BoxF.new w2 [.int .i64 d, .int .i64 l, .int .i64 f, .int .i64 s] 33
  have K3 := K2.out.alloc (.cells #[.int .i64 d, .int .i64 l, .int .i64 f, .int .i64 s] 33 (0, 0))
  have K4 := Lib.hid (show MK w (w2.heap.size + 1) [.int .i64 d, .int .i64 l, .int .i64 f, .int .i64 s, .int .i64 0, .int .i64 0, .int .i64 0, .int .i64 0, .int .i64 0, .int .i64 0, .int .i64 0, .int .i64 0, .int .i64 0, .int .i64 0, .int .i64 0] ((w2.alloc (.cells #[.int .i64 d, .int .i64 l, .int .i64 f, .int .i64 s] 33 (0, 0))).alloc (.cells #[.int .i64 d, .int .i64 l, .int .i64 f, .int .i64 s, .int .i64 0, .int .i64 0, .int .i64 0, .int .i64 0, .int .i64 0, .int .i64 0, .int .i64 0, .int .i64 0, .int .i64 0, .int .i64 0, .int .i64 0] 37 (0, 0))) by have h := K3.mk [.int .i64 d, .int .i64 l, .int .i64 f, .int .i64 s, .int .i64 0, .int .i64 0, .int .i64 0, .int .i64 0, .int .i64 0, .int .i64 0, .int .i64 0, .int .i64 0, .int .i64 0, .int .i64 0, .int .i64 0] K3.two; simpa only [World.size_alloc] using h)
  obtain ⟨k0, k1, k2, k3, kf⟩ := x3.four
  clear K2 K3
  go_wp2_with fail
  clear k0 k1 k2 k3 kf x3
  refine (HG_.out _).mono ?_
  rintro e w5 ⟨rfl, h5⟩
  have K5 := Lib.hid ((K4.out.below h5).alloc (.cells #[.int .i64 gc, .int .i64 gk, .int .i64 ga, .int .i64 gt] 35 (0, 0)))
  clear K4 HG_ h5
  go_wp2_with fail
  refine (HB_.out _).mono ?_
  rintro e w6 ⟨rfl, q0, rfl⟩
  have KC0 := Lib.hid (K5.out.drewN (q0))
  clear HB_
  go_wp2_with fail
  refine (HA_.out _).mono ?_
  rintro e w6 ⟨rfl, q1, rfl⟩
  have KC1 := Lib.hid (K5.out.drewN (q0 + q1))
  clear HA_ KC0
  go_wp2_with fail
  refine (HO_.out _).mono ?_
  rintro e w6 ⟨rfl, q2, rfl⟩
  have KC2 := Lib.hid (K5.out.drewN (q0 + q1 + q2))
  clear HO_ KC1
  go_wp2_with fail
  clear K5
  refine (HP_.out _).mono ?_
  rintro e w7 ⟨rfl, h7⟩
  have K7 := Lib.hid (KC2.out.below h7)
  clear KC2 HP_ h7
  obtain ⟨x0, x1, x2, x3, x4, x5, x6, x7, x8, x9, x10, x11, x12, x13, x14, xf⟩ := K7.out.2.2.2.1.fifteen
  have K8 := Lib.hid (show MK w (w2.heap.size + 1) [.int .i64 d, .int .i64 l, .int .i64 f, .int .i64 s, .int .i64 o, .int .i64 n, .int .i64 x, .int .i64 0, .int .i64 0, .int .i64 0, .int .i64 0, .int .i64 0, .int .i64 0, .int .i64 0, .int .i64 0] (((w7.setCell ⟨w2.heap.size + 1, 4, none⟩ (.int .i64 o)).setCell ⟨w2.heap.size + 1, 5, none⟩ (.int .i64 n)).setCell ⟨w2.heap.size + 1, 6, none⟩ (.int .i64 x)) from K7.out.puts 4 [.int .i64 o, .int .i64 n, .int .i64 x])
  clear K7
  go_wp2_with fail
  clear x0 x1 x2 x3 x4 x5 x6 x7 x8 x9 x10 x11 x12 x13 x14 xf
  refine (H1_.out _).mono ?_
  rintro e w10 ⟨rfl, hh⟩
  have K10a := Lib.hid (K8.out.below hh)
  clear K8 H1_ hh
  have t_ := K10a.out.2.2.2.1.therM 7 4 (by simp)
  have K10 := Lib.hid (show MK w (w2.heap.size + 1) [.int .i64 d, .int .i64 l, .int .i64 f, .int .i64 s, .int .i64 o, .int .i64 n, .int .i64 x, .int .i64 c, .int .i64 k, .int .i64 a, .int .i64 t, .int .i64 0, .int .i64 0, .int .i64 0, .int .i64 0] (w10.setCells (w2.heap.size + 1) 7 [.int .i64 c, .int .i64 k, .int .i64 a, .int .i64 t]) from K10a.out.put 7 [.int .i64 c, .int .i64 k, .int .i64 a, .int .i64 t])
  clear K10a
  have r9 := K10.out.2.1.range
  have t9 := K10.out.1.ther (n := 15) rfl
  go_wp2_with (first | (with_reducible refine isList ?_; (set_option maxRecDepth 100000 in refine stG 102 100 (w2.heap.size + 1) 7 [.int .i64 c, .int .i64 k, .int .i64 a, .int .i64 t] rfl rfl rfl rfl rfl ?_ ?_ ?_); exact t_; simp [Value.oneCell']) | (with_reducible refine isList ?_; refine ld15 4 (w.heap.size + 1) [.int .i64 0, .int .i64 0, .int .i64 0, .int .i64 0, .int .i64 0, .int .i64 0, .int .i64 0, .int .i64 0, .int .i64 0, .int .i64 0, .int .i64 0, .int .i64 0, .int .i64 0, .int .i64 0, .int .i64 0] rfl rfl rfl rfl ?_ ?_; exact r9) | (with_reducible refine isList ?_; (set_option maxRecDepth 100000 in refine st15 2 126 w.heap.size [.int .i64 0, .int .i64 0, .int .i64 0, .int .i64 0, .int .i64 0, .int .i64 0, .int .i64 0, .int .i64 0, .int .i64 0, .int .i64 0, .int .i64 0, .int .i64 0, .int .i64 0, .int .i64 0, .int .i64 0] rfl rfl rfl rfl rfl ?_ ?_ ?_); exact t9; simp [Value.oneCell']))
  have g9 := setc_grownC (w10.setCells (w2.heap.size + 1) 7 [.int .i64 c, .int .i64 k, .int .i64 a, .int .i64 t]) w.heap.size [.int .i64 0, .int .i64 0, .int .i64 0, .int .i64 0, .int .i64 0, .int .i64 0, .int .i64 0, .int .i64 0, .int .i64 0, .int .i64 0, .int .i64 0, .int .i64 0, .int .i64 0, .int .i64 0, .int .i64 0]
  have BE := Lib.hid ((K10.out).bel.grown g9 (K10.out).bel.size (fun q hq => by cases hq; exact Nat.le_refl _))
  have XR : BoxF ((w10.setCells (w2.heap.size + 1) 7 [.int .i64 c, .int .i64 k, .int .i64 a, .int .i64 t]).setCells w.heap.size 0 [.int .i64 0, .int .i64 0, .int .i64 0, .int .i64 0, .int .i64 0, .int .i64 0, .int .i64 0, .int .i64 0, .int .i64 0, .int .i64 0, .int .i64 0, .int .i64 0, .int .i64 0, .int .i64 0, .int .i64 0]) w.heap.size [.int .i64 0, .int .i64 0, .int .i64 0, .int .i64 0, .int .i64 0, .int .i64 0, .int .i64 0, .int .i64 0, .int .i64 0, .int .i64 0, .int .i64 0, .int .i64 0, .int .i64 0, .int .i64 0, .int .i64 0] 37 := BoxF.setAll (vs := [.int .i64 0, .int .i64 0, .int .i64 0, .int .i64 0, .int .i64 0, .int .i64 0, .int .i64 0, .int .i64 0, .int .i64 0, .int .i64 0, .int .i64 0, .int .i64 0, .int .i64 0, .int .i64 0, .int .i64 0]) K10.out.1
  generalize (w10.setCells (w2.heap.size + 1) 7 [.int .i64 c, .int .i64 k, .int .i64 a, .int .i64 t]).setCells w.heap.size 0 [.int .i64 0, .int .i64 0, .int .i64 0, .int .i64 0, .int .i64 0, .int .i64 0, .int .i64 0, .int .i64 0, .int .i64 0, .int .i64 0, .int .i64 0, .int .i64 0, .int .i64 0, .int .i64 0, .int .i64 0] = W9 at *
  obtain ⟨z0, z1, z2, z3, z4, z5, z6, z7, z8, z9, z10, z11, z12, z13, z14, zf⟩ := XR.fifteen
  exact bodyPost_ret (v := .tuple #[.agg #[.int .i64 0, .int .i64 0, .int .i64 0, .int .i64 0, .int .i64 0, .int .i64 0, .int .i64 0, .int .i64 0, .int .i64 0, .int .i64 0, .int .i64 0, .int .i64 0, .int .i64 0, .int .i64 0, .int .i64 0], .bool false]) (by simp [results, Tryd.results73, go_sem, z0, z1, z2, z3, z4, z5, z6, z7, z8, z9, z10, z11, z12, z13, z14]) rfl ⟨rfl, BE.out⟩
set_option maxRecDepth 100000 in
set_option maxHeartbeats 8000000 in
theorem l6P_full_011_g2 (z F R P0 Q0 P Q Od On : ByteArray) (d l f s gc gk ga gt o n x c k a t c' k' a' t' : Int) (w : World) (hz : ¬ (240 : Int) < (z.size : Int))
    (hC : ∀ W, Calls Tryd.prog 113 #[.string z, .string ⟨#[44, 32]⟩] W fun e w' => e = .returned (.tuple #[.string F, .string R, .bool true]) ∧ ∃ q, w' = W.drewN q)
    (hF : ∀ W, Calls Tryd.prog 114 #[.string F] W (AnsF W d l f s true))
    (hG : ∀ W, Calls Tryd.prog 115 #[.string R] W (AnsF W gc gk ga gt false))
    (hB : ∀ W, Calls Tryd.prog 113 #[.string R, .string ⟨#[32, 98, 101, 116, 119, 101, 101, 110, 32]⟩] W fun e w' => e = .returned (.tuple #[.string P0, .string Q0, .bool false]) ∧ ∃ q, w' = W.drewN q)
    (hA : ∀ W, Calls Tryd.prog 113 #[.string R, .string ⟨#[32, 97, 98, 111, 118, 101, 32]⟩] W fun e w' => e = .returned (.tuple #[.string P, .string Q, .bool true]) ∧ ∃ q, w' = W.drewN q)
    (hO : ∀ W, Calls Tryd.prog 113 #[.string P, .string ⟨#[32, 99, 104, 97, 114, 103, 101, 100, 32, 119, 105, 116, 104, 32]⟩] W fun e w' => e = .returned (.tuple #[.string Od, .string On, .bool true]) ∧ ∃ q, w' = W.drewN q)
    (hP : ∀ W, Calls Tryd.prog 29 #[.string Od] W fun e w' => e = .returned (.tuple #[.int .i64 o, .int .i64 n, .int .i64 x, .bool true]) ∧ Below W.heap.size W w')
    (h1 : ∀ W, Calls Tryd.prog 115 #[.string On] W (AnsF W c k a t true))
    (h2 : ∀ W, Calls Tryd.prog 115 #[.string Q] W (AnsF W c' k' a' t' false)) :
    Calls Tryd.prog 73 #[.string z] w (AnsA w 0 0 0 0 0 0 0 0 0 0 0 0 0 0 0 false) := by
  have HC_ := Lib.hid hC
  have HF_ := Lib.hid hF
  have HG_ := Lib.hid hG
  have HB_ := Lib.hid hB
  have HA_ := Lib.hid hA
  have HO_ := Lib.hid hO
  have HP_ := Lib.hid hP
  have H1_ := Lib.hid h1
  have H2_ := Lib.hid h2
  clear hC hF hG hB hA hO hP h1 h2
  have K0 := Lib.hid (NK.new w)
  go_enter Tryd.func73, Tryd.ntmps73
  go_wp2_with fail
  refine (HC_.out _).mono ?_
  rintro e w1 ⟨rfl, q, rfl⟩
  have K1 := Lib.hid (K0.out.drewN q)
  clear K0 HC_
  go_wp2_with fail
  refine (HF_.out _).mono ?_
  rintro e w2 ⟨rfl, h2⟩
  have K2 := Lib.hid (K1.out.below h2)
  clear K1 HF_ h2
  have x3 := BoxF.new w2 [.int .i64 d, .int .i64 l, .int .i64 f, .int .i64 s] 33
  have K3 := K2.out.alloc (.cells #[.int .i64 d, .int .i64 l, .int .i64 f, .int .i64 s] 33 (0, 0))
  have K4 := Lib.hid (show MK w (w2.heap.size + 1) [.int .i64 d, .int .i64 l, .int .i64 f, .int .i64 s, .int .i64 0, .int .i64 0, .int .i64 0, .int .i64 0, .int .i64 0, .int .i64 0, .int .i64 0, .int .i64 0, .int .i64 0, .int .i64 0, .int .i64 0] ((w2.alloc (.cells #[.int .i64 d, .int .i64 l, .int .i64 f, .int .i64 s] 33 (0, 0))).alloc (.cells #[.int .i64 d, .int .i64 l, .int .i64 f, .int .i64 s, .int .i64 0, .int .i64 0, .int .i64 0, .int .i64 0, .int .i64 0, .int .i64 0, .int .i64 0, .int .i64 0, .int .i64 0, .int .i64 0, .int .i64 0] 37 (0, 0))) by have h := K3.mk [.int .i64 d, .int .i64 l, .int .i64 f, .int .i64 s, .int .i64 0, .int .i64 0, .int .i64 0, .int .i64 0, .int .i64 0, .int .i64 0, .int .i64 0, .int .i64 0, .int .i64 0, .int .i64 0, .int .i64 0] K3.two; simpa only [World.size_alloc] using h)
  obtain ⟨k0, k1, k2, k3, kf⟩ := x3.four
  clear K2 K3
  go_wp2_with fail
  clear k0 k1 k2 k3 kf x3
  refine (HG_.out _).mono ?_
  rintro e w5 ⟨rfl, h5⟩
  have K5 := Lib.hid ((K4.out.below h5).alloc (.cells #[.int .i64 gc, .int .i64 gk, .int .i64 ga, .int .i64 gt] 35 (0, 0)))
  clear K4 HG_ h5
  go_wp2_with fail
  refine (HB_.out _).mono ?_
  rintro e w6 ⟨rfl, q0, rfl⟩
  have KC0 := Lib.hid (K5.out.drewN (q0))
  clear HB_
  go_wp2_with fail
  refine (HA_.out _).mono ?_
  rintro e w6 ⟨rfl, q1, rfl⟩
  have KC1 := Lib.hid (K5.out.drewN (q0 + q1))
  clear HA_ KC0
  go_wp2_with fail
  refine (HO_.out _).mono ?_
  rintro e w6 ⟨rfl, q2, rfl⟩
  have KC2 := Lib.hid (K5.out.drewN (q0 + q1 + q2))
  clear HO_ KC1
  go_wp2_with fail
  clear K5
  refine (HP_.out _).mono ?_
  rintro e w7 ⟨rfl, h7⟩
  have K7 := Lib.hid (KC2.out.below h7)
  clear KC2 HP_ h7
  obtain ⟨x0, x1, x2, x3, x4, x5, x6, x7, x8, x9, x10, x11, x12, x13, x14, xf⟩ := K7.out.2.2.2.1.fifteen
  have K8 := Lib.hid (show MK w (w2.heap.size + 1) [.int .i64 d, .int .i64 l, .int .i64 f, .int .i64 s, .int .i64 o, .int .i64 n, .int .i64 x, .int .i64 0, .int .i64 0, .int .i64 0, .int .i64 0, .int .i64 0, .int .i64 0, .int .i64 0, .int .i64 0] (((w7.setCell ⟨w2.heap.size + 1, 4, none⟩ (.int .i64 o)).setCell ⟨w2.heap.size + 1, 5, none⟩ (.int .i64 n)).setCell ⟨w2.heap.size + 1, 6, none⟩ (.int .i64 x)) from K7.out.puts 4 [.int .i64 o, .int .i64 n, .int .i64 x])
  clear K7
  go_wp2_with fail
  clear x0 x1 x2 x3 x4 x5 x6 x7 x8 x9 x10 x11 x12 x13 x14 xf
  refine (H1_.out _).mono ?_
  rintro e w10 ⟨rfl, hh⟩
  have K10a := Lib.hid (K8.out.below hh)
  clear K8 H1_ hh
  have t_ := K10a.out.2.2.2.1.therM 7 4 (by simp)
  have K10 := Lib.hid (show MK w (w2.heap.size + 1) [.int .i64 d, .int .i64 l, .int .i64 f, .int .i64 s, .int .i64 o, .int .i64 n, .int .i64 x, .int .i64 c, .int .i64 k, .int .i64 a, .int .i64 t, .int .i64 0, .int .i64 0, .int .i64 0, .int .i64 0] (w10.setCells (w2.heap.size + 1) 7 [.int .i64 c, .int .i64 k, .int .i64 a, .int .i64 t]) from K10a.out.put 7 [.int .i64 c, .int .i64 k, .int .i64 a, .int .i64 t])
  clear K10a
  go_wp2_with (with_reducible refine isList ?_; (set_option maxRecDepth 100000 in refine stG 102 100 (w2.heap.size + 1) 7 [.int .i64 c, .int .i64 k, .int .i64 a, .int .i64 t] rfl rfl rfl rfl rfl ?_ ?_ ?_); exact t_; simp [Value.oneCell'])
  clear t_
  refine (H2_.out _).mono ?_
  rintro e w11 ⟨rfl, hh⟩
  have K11a := Lib.hid (K10.out.below hh)
  clear K10 H2_ hh
  have t_ := K11a.out.2.2.2.1.therM 11 4 (by simp)
  have K11 := Lib.hid (show MK w (w2.heap.size + 1) [.int .i64 d, .int .i64 l, .int .i64 f, .int .i64 s, .int .i64 o, .int .i64 n, .int .i64 x, .int .i64 c, .int .i64 k, .int .i64 a, .int .i64 t, .int .i64 c', .int .i64 k', .int .i64 a', .int .i64 t'] (w11.setCells (w2.heap.size + 1) 11 [.int .i64 c', .int .i64 k', .int .i64 a', .int .i64 t']) from K11a.out.put 11 [.int .i64 c', .int .i64 k', .int .i64 a', .int .i64 t'])
  clear K11a
  have r9 := K11.out.2.1.range
  have t9 := K11.out.1.ther (n := 15) rfl
  go_wp2_with (first | (with_reducible refine isList ?_; (set_option maxRecDepth 100000 in refine stG 112 110 (w2.heap.size + 1) 11 [.int .i64 c', .int .i64 k', .int .i64 a', .int .i64 t'] rfl rfl rfl rfl rfl ?_ ?_ ?_); exact t_; simp [Value.oneCell']) | (with_reducible refine isList ?_; refine ld15 4 (w.heap.size + 1) [.int .i64 0, .int .i64 0, .int .i64 0, .int .i64 0, .int .i64 0, .int .i64 0, .int .i64 0, .int .i64 0, .int .i64 0, .int .i64 0, .int .i64 0, .int .i64 0, .int .i64 0, .int .i64 0, .int .i64 0] rfl rfl rfl rfl ?_ ?_; exact r9) | (with_reducible refine isList ?_; (set_option maxRecDepth 100000 in refine st15 2 126 w.heap.size [.int .i64 0, .int .i64 0, .int .i64 0, .int .i64 0, .int .i64 0, .int .i64 0, .int .i64 0, .int .i64 0, .int .i64 0, .int .i64 0, .int .i64 0, .int .i64 0, .int .i64 0, .int .i64 0, .int .i64 0] rfl rfl rfl rfl rfl ?_ ?_ ?_); exact t9; simp [Value.oneCell']))
  have g9 := setc_grownC (w11.setCells (w2.heap.size + 1) 11 [.int .i64 c', .int .i64 k', .int .i64 a', .int .i64 t']) w.heap.size [.int .i64 0, .int .i64 0, .int .i64 0, .int .i64 0, .int .i64 0, .int .i64 0, .int .i64 0, .int .i64 0, .int .i64 0, .int .i64 0, .int .i64 0, .int .i64 0, .int .i64 0, .int .i64 0, .int .i64 0]
  have BE := Lib.hid ((K11.out).bel.grown g9 (K11.out).bel.size (fun q hq => by cases hq; exact Nat.le_refl _))
  have XR : BoxF ((w11.setCells (w2.heap.size + 1) 11 [.int .i64 c', .int .i64 k', .int .i64 a', .int .i64 t']).setCells w.heap.size 0 [.int .i64 0, .int .i64 0, .int .i64 0, .int .i64 0, .int .i64 0, .int .i64 0, .int .i64 0, .int .i64 0, .int .i64 0, .int .i64 0, .int .i64 0, .int .i64 0, .int .i64 0, .int .i64 0, .int .i64 0]) w.heap.size [.int .i64 0, .int .i64 0, .int .i64 0, .int .i64 0, .int .i64 0, .int .i64 0, .int .i64 0, .int .i64 0, .int .i64 0, .int .i64 0, .int .i64 0, .int .i64 0, .int .i64 0, .int .i64 0, .int .i64 0] 37 := BoxF.setAll (vs := [.int .i64 0, .int .i64 0, .int .i64 0, .int .i64 0, .int .i64 0, .int .i64 0, .int .i64 0, .int .i64 0, .int .i64 0, .int .i64 0, .int .i64 0, .int .i64 0, .int .i64 0, .int .i64 0, .int .i64 0]) K11.out.1
  generalize (w11.setCells (w2.heap.size + 1) 11 [.int .i64 c', .int .i64 k', .int .i64 a', .int .i64 t']).setCells w.heap.size 0 [.int .i64 0, .int .i64 0, .int .i64 0, .int .i64 0, .int .i64 0, .int .i64 0, .int .i64 0, .int .i64 0, .int .i64 0, .int .i64 0, .int .i64 0, .int .i64 0, .int .i64 0, .int .i64 0, .int .i64 0] = W9 at *
  obtain ⟨z0, z1, z2, z3, z4, z5, z6, z7, z8, z9, z10, z11, z12, z13, z14, zf⟩ := XR.fifteen
  exact bodyPost_ret (v := .tuple #[.agg #[.int .i64 0, .int .i64 0, .int .i64 0, .int .i64 0, .int .i64 0, .int .i64 0, .int .i64 0, .int .i64 0, .int .i64 0, .int .i64 0, .int .i64 0, .int .i64 0, .int .i64 0, .int .i64 0, .int .i64 0], .bool false]) (by simp [results, Tryd.results73, go_sem, z0, z1, z2, z3, z4, z5, z6, z7, z8, z9, z10, z11, z12, z13, z14]) rfl ⟨rfl, BE.out⟩
set_option maxRecDepth 100000 in
set_option maxHeartbeats 8000000 in
theorem l6P_full_011_r (z F R P0 Q0 P Q Od On : ByteArray) (d l f s gc gk ga gt o n x c k a t c' k' a' t' : Int) (w : World) (hz : ¬ (240 : Int) < (z.size : Int))
    (hC : ∀ W, Calls Tryd.prog 113 #[.string z, .string ⟨#[44, 32]⟩] W fun e w' => e = .returned (.tuple #[.string F, .string R, .bool true]) ∧ ∃ q, w' = W.drewN q)
    (hF : ∀ W, Calls Tryd.prog 114 #[.string F] W (AnsF W d l f s true))
    (hG : ∀ W, Calls Tryd.prog 115 #[.string R] W (AnsF W gc gk ga gt false))
    (hB : ∀ W, Calls Tryd.prog 113 #[.string R, .string ⟨#[32, 98, 101, 116, 119, 101, 101, 110, 32]⟩] W fun e w' => e = .returned (.tuple #[.string P0, .string Q0, .bool false]) ∧ ∃ q, w' = W.drewN q)
    (hA : ∀ W, Calls Tryd.prog 113 #[.string R, .string ⟨#[32, 97, 98, 111, 118, 101, 32]⟩] W fun e w' => e = .returned (.tuple #[.string P, .string Q, .bool true]) ∧ ∃ q, w' = W.drewN q)
    (hO : ∀ W, Calls Tryd.prog 113 #[.string P, .string ⟨#[32, 99, 104, 97, 114, 103, 101, 100, 32, 119, 105, 116, 104, 32]⟩] W fun e w' => e = .returned (.tuple #[.string Od, .string On, .bool true]) ∧ ∃ q, w' = W.drewN q)
    (hP : ∀ W, Calls Tryd.prog 29 #[.string Od] W fun e w' => e = .returned (.tuple #[.int .i64 o, .int .i64 n, .int .i64 x, .bool true]) ∧ Below W.heap.size W w')
    (h1 : ∀ W, Calls Tryd.prog 115 #[.string On] W (AnsF W c k a t true))
    (h2 : ∀ W, Calls Tryd.prog 115 #[.string Q] W (AnsF W c' k' a' t' true))
    (hV : ∀ W, Calls Tryd.prog 51 #[.agg #[.int .i64 d, .int .i64 l, .int .i64 f, .int .i64 s, .int .i64 o, .int .i64 n, .int .i64 x, .int .i64 c, .int .i64 k, .int .i64 a, .int .i64 t, .int .i64 c', .int .i64 k', .int .i64 a', .int .i64 t']] W fun e w' => e = .returned (.bool false) ∧ Below W.heap.size W w') :
    Calls Tryd.prog 73 #[.string z] w (AnsA w 0 0 0 0 0 0 0 0 0 0 0 0 0 0 0 false) := by
  have HC_ := Lib.hid hC
  have HF_ := Lib.hid hF
  have HG_ := Lib.hid hG
  have HB_ := Lib.hid hB
  have HA_ := Lib.hid hA
  have HO_ := Lib.hid hO
  have HP_ := Lib.hid hP
  have H1_ := Lib.hid h1
  have H2_ := Lib.hid h2
  have HV_ := Lib.hid hV
  clear hC hF hG hB hA hO hP h1 h2 hV
  have K0 := Lib.hid (NK.new w)
  go_enter Tryd.func73, Tryd.ntmps73
  go_wp2_with fail
  refine (HC_.out _).mono ?_
  rintro e w1 ⟨rfl, q, rfl⟩
  have K1 := Lib.hid (K0.out.drewN q)
  clear K0 HC_
  go_wp2_with fail
  refine (HF_.out _).mono ?_
  rintro e w2 ⟨rfl, h2⟩
  have K2 := Lib.hid (K1.out.below h2)
  clear K1 HF_ h2
  have x3 := BoxF.new w2 [.int .i64 d, .int .i64 l, .int .i64 f, .int .i64 s] 33
  have K3 := K2.out.alloc (.cells #[.int .i64 d, .int .i64 l, .int .i64 f, .int .i64 s] 33 (0, 0))
  have K4 := Lib.hid (show MK w (w2.heap.size + 1) [.int .i64 d, .int .i64 l, .int .i64 f, .int .i64 s, .int .i64 0, .int .i64 0, .int .i64 0, .int .i64 0, .int .i64 0, .int .i64 0, .int .i64 0, .int .i64 0, .int .i64 0, .int .i64 0, .int .i64 0] ((w2.alloc (.cells #[.int .i64 d, .int .i64 l, .int .i64 f, .int .i64 s] 33 (0, 0))).alloc (.cells #[.int .i64 d, .int .i64 l, .int .i64 f, .int .i64 s, .int .i64 0, .int .i64 0, .int .i64 0, .int .i64 0, .int .i64 0, .int .i64 0, .int .i64 0, .int .i64 0, .int .i64 0, .int .i64 0, .int .i64 0] 37 (0, 0))) by have h := K3.mk [.int .i64 d, .int .i64 l, .int .i64 f, .int .i64 s, .int .i64 0, .int .i64 0, .int .i64 0, .int .i64 0, .int .i64 0, .int .i64 0, .int .i64 0, .int .i64 0, .int .i64 0, .int .i64 0, .int .i64 0] K3.two; simpa only [World.size_alloc] using h)
  obtain ⟨k0, k1, k2, k3, kf⟩ := x3.four
  clear K2 K3
  go_wp2_with fail
  clear k0 k1 k2 k3 kf x3
  refine (HG_.out _).mono ?_
  rintro e w5 ⟨rfl, h5⟩
  have K5 := Lib.hid ((K4.out.below h5).alloc (.cells #[.int .i64 gc, .int .i64 gk, .int .i64 ga, .int .i64 gt] 35 (0, 0)))
  clear K4 HG_ h5
  go_wp2_with fail
  refine (HB_.out _).mono ?_
  rintro e w6 ⟨rfl, q0, rfl⟩
  have KC0 := Lib.hid (K5.out.drewN (q0))
  clear HB_
  go_wp2_with fail
  refine (HA_.out _).mono ?_
  rintro e w6 ⟨rfl, q1, rfl⟩
  have KC1 := Lib.hid (K5.out.drewN (q0 + q1))
  clear HA_ KC0
  go_wp2_with fail
  refine (HO_.out _).mono ?_
  rintro e w6 ⟨rfl, q2, rfl⟩
  have KC2 := Lib.hid (K5.out.drewN (q0 + q1 + q2))
  clear HO_ KC1
  go_wp2_with fail
  clear K5
  refine (HP_.out _).mono ?_
  rintro e w7 ⟨rfl, h7⟩
  have K7 := Lib.hid (KC2.out.below h7)
  clear KC2 HP_ h7
  obtain ⟨x0, x1, x2, x3, x4, x5, x6, x7, x8, x9, x10, x11, x12, x13, x14, xf⟩ := K7.out.2.2.2.1.fifteen
  have K8 := Lib.hid (show MK w (w2.heap.size + 1) [.int .i64 d, .int .i64 l, .int .i64 f, .int .i64 s, .int .i64 o, .int .i64 n, .int .i64 x, .int .i64 0, .int .i64 0, .int .i64 0, .int .i64 0, .int .i64 0, .int .i64 0, .int .i64 0, .int .i64 0] (((w7.setCell ⟨w2.heap.size + 1, 4, none⟩ (.int .i64 o)).setCell ⟨w2.heap.size + 1, 5, none⟩ (.int .i64 n)).setCell ⟨w2.heap.size + 1, 6, none⟩ (.int .i64 x)) from K7.out.puts 4 [.int .i64 o, .int .i64 n, .int .i64 x])
  clear K7
  go_wp2_with fail
  clear x0 x1 x2 x3 x4 x5 x6 x7 x8 x9 x10 x11 x12 x13 x14 xf
  refine (H1_.out _).mono ?_
  rintro e w10 ⟨rfl, hh⟩
  have K10a := Lib.hid (K8.out.below hh)
  clear K8 H1_ hh
  have t_ := K10a.out.2.2.2.1.therM 7 4 (by simp)
  have K10 := Lib.hid (show MK w (w2.heap.size + 1) [.int .i64 d, .int .i64 l, .int .i64 f, .int .i64 s, .int .i64 o, .int .i64 n, .int .i64 x, .int .i64 c, .int .i64 k, .int .i64 a, .int .i64 t, .int .i64 0, .int .i64 0, .int .i64 0, .int .i64 0] (w10.setCells (w2.heap.size + 1) 7 [.int .i64 c, .int .i64 k, .int .i64 a, .int .i64 t]) from K10a.out.put 7 [.int .i64 c, .int .i64 k, .int .i64 a, .int .i64 t])
  clear K10a
  go_wp2_with (with_reducible refine isList ?_; (set_option maxRecDepth 100000 in refine stG 102 100 (w2.heap.size + 1) 7 [.int .i64 c, .int .i64 k, .int .i64 a, .int .i64 t] rfl rfl rfl rfl rfl ?_ ?_ ?_); exact t_; simp [Value.oneCell'])
  clear t_
  refine (H2_.out _).mono ?_
  rintro e w11 ⟨rfl, hh⟩
  have K11a := Lib.hid (K10.out.below hh)
  clear K10 H2_ hh
  have t_ := K11a.out.2.2.2.1.therM 11 4 (by simp)
  have K11 := Lib.hid (show MK w (w2.heap.size + 1) [.int .i64 d, .int .i64 l, .int .i64 f, .int .i64 s, .int .i64 o, .int .i64 n, .int .i64 x, .int .i64 c, .int .i64 k, .int .i64 a, .int .i64 t, .int .i64 c', .int .i64 k', .int .i64 a', .int .i64 t'] (w11.setCells (w2.heap.size + 1) 11 [.int .i64 c', .int .i64 k', .int .i64 a', .int .i64 t']) from K11a.out.put 11 [.int .i64 c', .int .i64 k', .int .i64 a', .int .i64 t'])
  clear K11a
  have hx := K11.out.2.2.2.1.fifteen
  obtain ⟨u0, u1, u2, u3, u4, u5, u6, u7, u8, u9, u10, u11, u12, u13, u14, uf⟩ := hx
  go_wp2_with (with_reducible refine isList ?_; (set_option maxRecDepth 100000 in refine stG 112 110 (w2.heap.size + 1) 11 [.int .i64 c', .int .i64 k', .int .i64 a', .int .i64 t'] rfl rfl rfl rfl rfl ?_ ?_ ?_); exact t_; simp [Value.oneCell'])
  clear t_
  clear u0 u1 u2 u3 u4 u5 u6 u7 u8 u9 u10 u11 u12 u13 u14 uf
  refine (HV_.out _).mono ?_
  rintro e w12 ⟨rfl, hh⟩
  have K12 := Lib.hid (K11.out.below hh)
  clear K11 HV_ hh
  have r9 := K12.out.2.1.range
  have t9 := K12.out.1.ther (n := 15) rfl
  go_wp2_with (first | (with_reducible refine isList ?_; refine ld15 4 (w.heap.size + 1) [.int .i64 0, .int .i64 0, .int .i64 0, .int .i64 0, .int .i64 0, .int .i64 0, .int .i64 0, .int .i64 0, .int .i64 0, .int .i64 0, .int .i64 0, .int .i64 0, .int .i64 0, .int .i64 0, .int .i64 0] rfl rfl rfl rfl ?_ ?_; exact r9) | (with_reducible refine isList ?_; (set_option maxRecDepth 100000 in refine st15 2 126 w.heap.size [.int .i64 0, .int .i64 0, .int .i64 0, .int .i64 0, .int .i64 0, .int .i64 0, .int .i64 0, .int .i64 0, .int .i64 0, .int .i64 0, .int .i64 0, .int .i64 0, .int .i64 0, .int .i64 0, .int .i64 0] rfl rfl rfl rfl rfl ?_ ?_ ?_); exact t9; simp [Value.oneCell']))
  have g9 := setc_grownC w12 w.heap.size [.int .i64 0, .int .i64 0, .int .i64 0, .int .i64 0, .int .i64 0, .int .i64 0, .int .i64 0, .int .i64 0, .int .i64 0, .int .i64 0, .int .i64 0, .int .i64 0, .int .i64 0, .int .i64 0, .int .i64 0]
  have BE := Lib.hid ((K12.out).bel.grown g9 (K12.out).bel.size (fun q hq => by cases hq; exact Nat.le_refl _))
  have XR : BoxF (w12.setCells w.heap.size 0 [.int .i64 0, .int .i64 0, .int .i64 0, .int .i64 0, .int .i64 0, .int .i64 0, .int .i64 0, .int .i64 0, .int .i64 0, .int .i64 0, .int .i64 0, .int .i64 0, .int .i64 0, .int .i64 0, .int .i64 0]) w.heap.size [.int .i64 0, .int .i64 0, .int .i64 0, .int .i64 0, .int .i64 0, .int .i64 0, .int .i64 0, .int .i64 0, .int .i64 0, .int .i64 0, .int .i64 0, .int .i64 0, .int .i64 0, .int .i64 0, .int .i64 0] 37 := BoxF.setAll (vs := [.int .i64 0, .int .i64 0, .int .i64 0, .int .i64 0, .int .i64 0, .int .i64 0, .int .i64 0, .int .i64 0, .int .i64 0, .int .i64 0, .int .i64 0, .int .i64 0, .int .i64 0, .int .i64 0, .int .i64 0]) K12.out.1
  generalize w12.setCells w.heap.size 0 [.int .i64 0, .int .i64 0, .int .i64 0, .int .i64 0, .int .i64 0, .int .i64 0, .int .i64 0, .int .i64 0, .int .i64 0, .int .i64 0, .int .i64 0, .int .i64 0, .int .i64 0, .int .i64 0, .int .i64 0] = W9 at *
  obtain ⟨z0, z1, z2, z3, z4, z5, z6, z7, z8, z9, z10, z11, z12, z13, z14, zf⟩ := XR.fifteen
  exact bodyPost_ret (v := .tuple #[.agg #[.int .i64 0, .int .i64 0, .int .i64 0, .int .i64 0, .int .i64 0, .int .i64 0, .int .i64 0, .int .i64 0, .int .i64 0, .int .i64 0, .int .i64 0, .int .i64 0, .int .i64 0, .int .i64 0, .int .i64 0], .bool false]) (by simp [results, Tryd.results73, go_sem, z0, z1, z2, z3, z4, z5, z6, z7, z8, z9, z10, z11, z12, z13, z14]) rfl ⟨rfl, BE.out⟩
set_option maxRecDepth 100000 in
set_option maxHeartbeats 8000000 in
theorem l6P_full_011_eq (z F R P0 Q0 P Q Od On T : ByteArray) (d l f s gc gk ga gt o n x c k a t c' k' a' t' : Int) (w : World) (hz : ¬ (240 : Int) < (z.size : Int))
    (hC : ∀ W, Calls Tryd.prog 113 #[.string z, .string ⟨#[44, 32]⟩] W fun e w' => e = .returned (.tuple #[.string F, .string R, .bool true]) ∧ ∃ q, w' = W.drewN q)
    (hF : ∀ W, Calls Tryd.prog 114 #[.string F] W (AnsF W d l f s true))
    (hG : ∀ W, Calls Tryd.prog 115 #[.string R] W (AnsF W gc gk ga gt false))
    (hB : ∀ W, Calls Tryd.prog 113 #[.string R, .string ⟨#[32, 98, 101, 116, 119, 101, 101, 110, 32]⟩] W fun e w' => e = .returned (.tuple #[.string P0, .string Q0, .bool false]) ∧ ∃ q, w' = W.drewN q)
    (hA : ∀ W, Calls Tryd.prog 113 #[.string R, .string ⟨#[32, 97, 98, 111, 118, 101, 32]⟩] W fun e w' => e = .returned (.tuple #[.string P, .string Q, .bool true]) ∧ ∃ q, w' = W.drewN q)
    (hO : ∀ W, Calls Tryd.prog 113 #[.string P, .string ⟨#[32, 99, 104, 97, 114, 103, 101, 100, 32, 119, 105, 116, 104, 32]⟩] W fun e w' => e = .returned (.tuple #[.string Od, .string On, .bool true]) ∧ ∃ q, w' = W.drewN q)
    (hP : ∀ W, Calls Tryd.prog 29 #[.string Od] W fun e w' => e = .returned (.tuple #[.int .i64 o, .int .i64 n, .int .i64 x, .bool true]) ∧ Below W.heap.size W w')
    (h1 : ∀ W, Calls Tryd.prog 115 #[.string On] W (AnsF W c k a t true))
    (h2 : ∀ W, Calls Tryd.prog 115 #[.string Q] W (AnsF W c' k' a' t' true))
    (hV : ∀ W, Calls Tryd.prog 51 #[.agg #[.int .i64 d, .int .i64 l, .int .i64 f, .int .i64 s, .int .i64 o, .int .i64 n, .int .i64 x, .int .i64 c, .int .i64 k, .int .i64 a, .int .i64 t, .int .i64 c', .int .i64 k', .int .i64 a', .int .i64 t']] W fun e w' => e = .returned (.bool true) ∧ Below W.heap.size W w')
    (hT : ∀ W, Calls Tryd.prog 52 #[.agg #[.int .i64 d, .int .i64 l, .int .i64 f, .int .i64 s, .int .i64 o, .int .i64 n, .int .i64 x, .int .i64 c, .int .i64 k, .int .i64 a, .int .i64 t, .int .i64 c', .int .i64 k', .int .i64 a', .int .i64 t']] W fun e w' => e = .returned (.string T) ∧ Below W.heap.size W w')
    (hts : T = z) :
    Calls Tryd.prog 73 #[.string z] w (AnsA w d l f s o n x c k a t c' k' a' t' true) := by
  have heq := str_eq hts
  clear hts
  have HC_ := Lib.hid hC
  have HF_ := Lib.hid hF
  have HG_ := Lib.hid hG
  have HB_ := Lib.hid hB
  have HA_ := Lib.hid hA
  have HO_ := Lib.hid hO
  have HP_ := Lib.hid hP
  have H1_ := Lib.hid h1
  have H2_ := Lib.hid h2
  have HV_ := Lib.hid hV
  have HT_ := Lib.hid hT
  clear hC hF hG hB hA hO hP h1 h2 hV hT
  have K0 := Lib.hid (NK.new w)
  go_enter Tryd.func73, Tryd.ntmps73
  go_wp2_with fail
  refine (HC_.out _).mono ?_
  rintro e w1 ⟨rfl, q, rfl⟩
  have K1 := Lib.hid (K0.out.drewN q)
  clear K0 HC_
  go_wp2_with fail
  refine (HF_.out _).mono ?_
  rintro e w2 ⟨rfl, h2⟩
  have K2 := Lib.hid (K1.out.below h2)
  clear K1 HF_ h2
  have x3 := BoxF.new w2 [.int .i64 d, .int .i64 l, .int .i64 f, .int .i64 s] 33
  have K3 := K2.out.alloc (.cells #[.int .i64 d, .int .i64 l, .int .i64 f, .int .i64 s] 33 (0, 0))
  have K4 := Lib.hid (show MK w (w2.heap.size + 1) [.int .i64 d, .int .i64 l, .int .i64 f, .int .i64 s, .int .i64 0, .int .i64 0, .int .i64 0, .int .i64 0, .int .i64 0, .int .i64 0, .int .i64 0, .int .i64 0, .int .i64 0, .int .i64 0, .int .i64 0] ((w2.alloc (.cells #[.int .i64 d, .int .i64 l, .int .i64 f, .int .i64 s] 33 (0, 0))).alloc (.cells #[.int .i64 d, .int .i64 l, .int .i64 f, .int .i64 s, .int .i64 0, .int .i64 0, .int .i64 0, .int .i64 0, .int .i64 0, .int .i64 0, .int .i64 0, .int .i64 0, .int .i64 0, .int .i64 0, .int .i64 0] 37 (0, 0))) by have h := K3.mk [.int .i64 d, .int .i64 l, .int .i64 f, .int .i64 s, .int .i64 0, .int .i64 0, .int .i64 0, .int .i64 0, .int .i64 0, .int .i64 0, .int .i64 0, .int .i64 0, .int .i64 0, .int .i64 0, .int .i64 0] K3.two; simpa only [World.size_alloc] using h)
  obtain ⟨k0, k1, k2, k3, kf⟩ := x3.four
  clear K2 K3
  go_wp2_with fail
  clear k0 k1 k2 k3 kf x3
  refine (HG_.out _).mono ?_
  rintro e w5 ⟨rfl, h5⟩
  have K5 := Lib.hid ((K4.out.below h5).alloc (.cells #[.int .i64 gc, .int .i64 gk, .int .i64 ga, .int .i64 gt] 35 (0, 0)))
  clear K4 HG_ h5
  go_wp2_with fail
  refine (HB_.out _).mono ?_
  rintro e w6 ⟨rfl, q0, rfl⟩
  have KC0 := Lib.hid (K5.out.drewN (q0))
  clear HB_
  go_wp2_with fail
  refine (HA_.out _).mono ?_
  rintro e w6 ⟨rfl, q1, rfl⟩
  have KC1 := Lib.hid (K5.out.drewN (q0 + q1))
  clear HA_ KC0
  go_wp2_with fail
  refine (HO_.out _).mono ?_
  rintro e w6 ⟨rfl, q2, rfl⟩
  have KC2 := Lib.hid (K5.out.drewN (q0 + q1 + q2))
  clear HO_ KC1
  go_wp2_with fail
  clear K5
  refine (HP_.out _).mono ?_
  rintro e w7 ⟨rfl, h7⟩
  have K7 := Lib.hid (KC2.out.below h7)
  clear KC2 HP_ h7
  obtain ⟨x0, x1, x2, x3, x4, x5, x6, x7, x8, x9, x10, x11, x12, x13, x14, xf⟩ := K7.out.2.2.2.1.fifteen
  have K8 := Lib.hid (show MK w (w2.heap.size + 1) [.int .i64 d, .int .i64 l, .int .i64 f, .int .i64 s, .int .i64 o, .int .i64 n, .int .i64 x, .int .i64 0, .int .i64 0, .int .i64 0, .int .i64 0, .int .i64 0, .int .i64 0, .int .i64 0, .int .i64 0] (((w7.setCell ⟨w2.heap.size + 1, 4, none⟩ (.int .i64 o)).setCell ⟨w2.heap.size + 1, 5, none⟩ (.int .i64 n)).setCell ⟨w2.heap.size + 1, 6, none⟩ (.int .i64 x)) from K7.out.puts 4 [.int .i64 o, .int .i64 n, .int .i64 x])
  clear K7
  go_wp2_with fail
  clear x0 x1 x2 x3 x4 x5 x6 x7 x8 x9 x10 x11 x12 x13 x14 xf
  refine (H1_.out _).mono ?_
  rintro e w10 ⟨rfl, hh⟩
  have K10a := Lib.hid (K8.out.below hh)
  clear K8 H1_ hh
  have t_ := K10a.out.2.2.2.1.therM 7 4 (by simp)
  have K10 := Lib.hid (show MK w (w2.heap.size + 1) [.int .i64 d, .int .i64 l, .int .i64 f, .int .i64 s, .int .i64 o, .int .i64 n, .int .i64 x, .int .i64 c, .int .i64 k, .int .i64 a, .int .i64 t, .int .i64 0, .int .i64 0, .int .i64 0, .int .i64 0] (w10.setCells (w2.heap.size + 1) 7 [.int .i64 c, .int .i64 k, .int .i64 a, .int .i64 t]) from K10a.out.put 7 [.int .i64 c, .int .i64 k, .int .i64 a, .int .i64 t])
  clear K10a
  go_wp2_with (with_reducible refine isList ?_; (set_option maxRecDepth 100000 in refine stG 102 100 (w2.heap.size + 1) 7 [.int .i64 c, .int .i64 k, .int .i64 a, .int .i64 t] rfl rfl rfl rfl rfl ?_ ?_ ?_); exact t_; simp [Value.oneCell'])
  clear t_
  refine (H2_.out _).mono ?_
  rintro e w11 ⟨rfl, hh⟩
  have K11a := Lib.hid (K10.out.below hh)
  clear K10 H2_ hh
  have t_ := K11a.out.2.2.2.1.therM 11 4 (by simp)
  have K11 := Lib.hid (show MK w (w2.heap.size + 1) [.int .i64 d, .int .i64 l, .int .i64 f, .int .i64 s, .int .i64 o, .int .i64 n, .int .i64 x, .int .i64 c, .int .i64 k, .int .i64 a, .int .i64 t, .int .i64 c', .int .i64 k', .int .i64 a', .int .i64 t'] (w11.setCells (w2.heap.size + 1) 11 [.int .i64 c', .int .i64 k', .int .i64 a', .int .i64 t']) from K11a.out.put 11 [.int .i64 c', .int .i64 k', .int .i64 a', .int .i64 t'])
  clear K11a
  have hx := K11.out.2.2.2.1.fifteen
  obtain ⟨u0, u1, u2, u3, u4, u5, u6, u7, u8, u9, u10, u11, u12, u13, u14, uf⟩ := hx
  go_wp2_with (with_reducible refine isList ?_; (set_option maxRecDepth 100000 in refine stG 112 110 (w2.heap.size + 1) 11 [.int .i64 c', .int .i64 k', .int .i64 a', .int .i64 t'] rfl rfl rfl rfl rfl ?_ ?_ ?_); exact t_; simp [Value.oneCell'])
  clear t_
  clear u0 u1 u2 u3 u4 u5 u6 u7 u8 u9 u10 u11 u12 u13 u14 uf
  refine (HV_.out _).mono ?_
  rintro e w12 ⟨rfl, hh⟩
  have K12 := Lib.hid (K11.out.below hh)
  clear K11 HV_ hh
  have hx := K12.out.2.2.2.1.fifteen
  obtain ⟨u0, u1, u2, u3, u4, u5, u6, u7, u8, u9, u10, u11, u12, u13, u14, uf⟩ := hx
  go_wp2_with fail
  clear u0 u1 u2 u3 u4 u5 u6 u7 u8 u9 u10 u11 u12 u13 u14 uf
  refine (HT_.out _).mono ?_
  rintro e w13 ⟨rfl, hh⟩
  have K13 := Lib.hid (K12.out.below hh)
  clear K12 HT_ hh
  have r9 := K13.out.2.2.2.1.range
  have t9 := K13.out.1.ther (n := 15) rfl
  go_wp2_with (first | (with_reducible refine isList ?_; refine ld15 10 (w2.heap.size + 1) [.int .i64 d, .int .i64 l, .int .i64 f, .int .i64 s, .int .i64 o, .int .i64 n, .int .i64 x, .int .i64 c, .int .i64 k, .int .i64 a, .int .i64 t, .int .i64 c', .int .i64 k', .int .i64 a', .int .i64 t'] rfl rfl rfl rfl ?_ ?_; exact r9) | (with_reducible refine isList ?_; (set_option maxRecDepth 100000 in refine st15 2 127 w.heap.size [.int .i64 d, .int .i64 l, .int .i64 f, .int .i64 s, .int .i64 o, .int .i64 n, .int .i64 x, .int .i64 c, .int .i64 k, .int .i64 a, .int .i64 t, .int .i64 c', .int .i64 k', .int .i64 a', .int .i64 t'] rfl rfl rfl rfl rfl ?_ ?_ ?_); exact t9; simp [Value.oneCell']))
  have g9 := setc_grownC w13 w.heap.size [.int .i64 d, .int .i64 l, .int .i64 f, .int .i64 s, .int .i64 o, .int .i64 n, .int .i64 x, .int .i64 c, .int .i64 k, .int .i64 a, .int .i64 t, .int .i64 c', .int .i64 k', .int .i64 a', .int .i64 t']
  have BE := Lib.hid ((K13.out).bel.grown g9 (K13.out).bel.size (fun q hq => by cases hq; exact Nat.le_refl _))
  have XR : BoxF (w13.setCells w.heap.size 0 [.int .i64 d, .int .i64 l, .int .i64 f, .int .i64 s, .int .i64 o, .int .i64 n, .int .i64 x, .int .i64 c, .int .i64 k, .int .i64 a, .int .i64 t, .int .i64 c', .int .i64 k', .int .i64 a', .int .i64 t']) w.heap.size [.int .i64 d, .int .i64 l, .int .i64 f, .int .i64 s, .int .i64 o, .int .i64 n, .int .i64 x, .int .i64 c, .int .i64 k, .int .i64 a, .int .i64 t, .int .i64 c', .int .i64 k', .int .i64 a', .int .i64 t'] 37 := BoxF.setAll (vs := [.int .i64 d, .int .i64 l, .int .i64 f, .int .i64 s, .int .i64 o, .int .i64 n, .int .i64 x, .int .i64 c, .int .i64 k, .int .i64 a, .int .i64 t, .int .i64 c', .int .i64 k', .int .i64 a', .int .i64 t']) K13.out.1
  generalize w13.setCells w.heap.size 0 [.int .i64 d, .int .i64 l, .int .i64 f, .int .i64 s, .int .i64 o, .int .i64 n, .int .i64 x, .int .i64 c, .int .i64 k, .int .i64 a, .int .i64 t, .int .i64 c', .int .i64 k', .int .i64 a', .int .i64 t'] = W9 at *
  obtain ⟨z0, z1, z2, z3, z4, z5, z6, z7, z8, z9, z10, z11, z12, z13, z14, zf⟩ := XR.fifteen
  exact bodyPost_ret (v := .tuple #[.agg #[.int .i64 d, .int .i64 l, .int .i64 f, .int .i64 s, .int .i64 o, .int .i64 n, .int .i64 x, .int .i64 c, .int .i64 k, .int .i64 a, .int .i64 t, .int .i64 c', .int .i64 k', .int .i64 a', .int .i64 t'], .bool true]) (by simp [results, Tryd.results73, go_sem, z0, z1, z2, z3, z4, z5, z6, z7, z8, z9, z10, z11, z12, z13, z14]) rfl ⟨rfl, BE.out⟩
set_option maxRecDepth 100000 in
set_option maxHeartbeats 8000000 in
theorem l6P_full_011_ne (z F R P0 Q0 P Q Od On T : ByteArray) (d l f s gc gk ga gt o n x c k a t c' k' a' t' : Int) (w : World) (hz : ¬ (240 : Int) < (z.size : Int))
    (hC : ∀ W, Calls Tryd.prog 113 #[.string z, .string ⟨#[44, 32]⟩] W fun e w' => e = .returned (.tuple #[.string F, .string R, .bool true]) ∧ ∃ q, w' = W.drewN q)
    (hF : ∀ W, Calls Tryd.prog 114 #[.string F] W (AnsF W d l f s true))
    (hG : ∀ W, Calls Tryd.prog 115 #[.string R] W (AnsF W gc gk ga gt false))
    (hB : ∀ W, Calls Tryd.prog 113 #[.string R, .string ⟨#[32, 98, 101, 116, 119, 101, 101, 110, 32]⟩] W fun e w' => e = .returned (.tuple #[.string P0, .string Q0, .bool false]) ∧ ∃ q, w' = W.drewN q)
    (hA : ∀ W, Calls Tryd.prog 113 #[.string R, .string ⟨#[32, 97, 98, 111, 118, 101, 32]⟩] W fun e w' => e = .returned (.tuple #[.string P, .string Q, .bool true]) ∧ ∃ q, w' = W.drewN q)
    (hO : ∀ W, Calls Tryd.prog 113 #[.string P, .string ⟨#[32, 99, 104, 97, 114, 103, 101, 100, 32, 119, 105, 116, 104, 32]⟩] W fun e w' => e = .returned (.tuple #[.string Od, .string On, .bool true]) ∧ ∃ q, w' = W.drewN q)
    (hP : ∀ W, Calls Tryd.prog 29 #[.string Od] W fun e w' => e = .returned (.tuple #[.int .i64 o, .int .i64 n, .int .i64 x, .bool true]) ∧ Below W.heap.size W w')
    (h1 : ∀ W, Calls Tryd.prog 115 #[.string On] W (AnsF W c k a t true))
    (h2 : ∀ W, Calls Tryd.prog 115 #[.string Q] W (AnsF W c' k' a' t' true))
    (hV : ∀ W, Calls Tryd.prog 51 #[.agg #[.int .i64 d, .int .i64 l, .int .i64 f, .int .i64 s, .int .i64 o, .int .i64 n, .int .i64 x, .int .i64 c, .int .i64 k, .int .i64 a, .int .i64 t, .int .i64 c', .int .i64 k', .int .i64 a', .int .i64 t']] W fun e w' => e = .returned (.bool true) ∧ Below W.heap.size W w')
    (hT : ∀ W, Calls Tryd.prog 52 #[.agg #[.int .i64 d, .int .i64 l, .int .i64 f, .int .i64 s, .int .i64 o, .int .i64 n, .int .i64 x, .int .i64 c, .int .i64 k, .int .i64 a, .int .i64 t, .int .i64 c', .int .i64 k', .int .i64 a', .int .i64 t']] W fun e w' => e = .returned (.string T) ∧ Below W.heap.size W w')
    (hts : T ≠ z) :
    Calls Tryd.prog 73 #[.string z] w (AnsA w 0 0 0 0 0 0 0 0 0 0 0 0 0 0 0 false) := by
  have hne := str_ne hts
  clear hts
  have HC_ := Lib.hid hC
  have HF_ := Lib.hid hF
  have HG_ := Lib.hid hG
  have HB_ := Lib.hid hB
  have HA_ := Lib.hid hA
  have HO_ := Lib.hid hO
  have HP_ := Lib.hid hP
  have H1_ := Lib.hid h1
  have H2_ := Lib.hid h2
  have HV_ := Lib.hid hV
  have HT_ := Lib.hid hT
  clear hC hF hG hB hA hO hP h1 h2 hV hT
  have K0 := Lib.hid (NK.new w)
  go_enter Tryd.func73, Tryd.ntmps73
  go_wp2_with fail
  refine (HC_.out _).mono ?_
  rintro e w1 ⟨rfl, q, rfl⟩
  have K1 := Lib.hid (K0.out.drewN q)
  clear K0 HC_
  go_wp2_with fail
  refine (HF_.out _).mono ?_
  rintro e w2 ⟨rfl, h2⟩
  have K2 := Lib.hid (K1.out.below h2)
  clear K1 HF_ h2
  have x3 := BoxF.new w2 [.int .i64 d, .int .i64 l, .int .i64 f, .int .i64 s] 33
  have K3 := K2.out.alloc (.cells #[.int .i64 d, .int .i64 l, .int .i64 f, .int .i64 s] 33 (0, 0))
  have K4 := Lib.hid (show MK w (w2.heap.size + 1) [.int .i64 d, .int .i64 l, .int .i64 f, .int .i64 s, .int .i64 0, .int .i64 0, .int .i64 0, .int .i64 0, .int .i64 0, .int .i64 0, .int .i64 0, .int .i64 0, .int .i64 0, .int .i64 0, .int .i64 0] ((w2.alloc (.cells #[.int .i64 d, .int .i64 l, .int .i64 f, .int .i64 s] 33 (0, 0))).alloc (.cells #[.int .i64 d, .int .i64 l, .int .i64 f, .int .i64 s, .int .i64 0, .int .i64 0, .int .i64 0, .int .i64 0, .int .i64 0, .int .i64 0, .int .i64 0, .int .i64 0, .int .i64 0, .int .i64 0, .int .i64 0] 37 (0, 0))) by have h := K3.mk [.int .i64 d, .int .i64 l, .int .i64 f, .int .i64 s, .int .i64 0, .int .i64 0, .int .i64 0, .int .i64 0, .int .i64 0, .int .i64 0, .int .i64 0, .int .i64 0, .int .i64 0, .int .i64 0, .int .i64 0] K3.two; simpa only [World.size_alloc] using h)
  obtain ⟨k0, k1, k2, k3, kf⟩ := x3.four
  clear K2 K3
  go_wp2_with fail
  clear k0 k1 k2 k3 kf x3
  refine (HG_.out _).mono ?_
  rintro e w5 ⟨rfl, h5⟩
  have K5 := Lib.hid ((K4.out.below h5).alloc (.cells #[.int .i64 gc, .int .i64 gk, .int .i64 ga, .int .i64 gt] 35 (0, 0)))
  clear K4 HG_ h5
  go_wp2_with fail
  refine (HB_.out _).mono ?_
  rintro e w6 ⟨rfl, q0, rfl⟩
  have KC0 := Lib.hid (K5.out.drewN (q0))
  clear HB_
  go_wp2_with fail
  refine (HA_.out _).mono ?_
  rintro e w6 ⟨rfl, q1, rfl⟩
  have KC1 := Lib.hid (K5.out.drewN (q0 + q1))
  clear HA_ KC0
  go_wp2_with fail
  refine (HO_.out _).mono ?_
  rintro e w6 ⟨rfl, q2, rfl⟩
  have KC2 := Lib.hid (K5.out.drewN (q0 + q1 + q2))
  clear HO_ KC1
  go_wp2_with fail
  clear K5
  refine (HP_.out _).mono ?_
  rintro e w7 ⟨rfl, h7⟩
  have K7 := Lib.hid (KC2.out.below h7)
  clear KC2 HP_ h7
  obtain ⟨x0, x1, x2, x3, x4, x5, x6, x7, x8, x9, x10, x11, x12, x13, x14, xf⟩ := K7.out.2.2.2.1.fifteen
  have K8 := Lib.hid (show MK w (w2.heap.size + 1) [.int .i64 d, .int .i64 l, .int .i64 f, .int .i64 s, .int .i64 o, .int .i64 n, .int .i64 x, .int .i64 0, .int .i64 0, .int .i64 0, .int .i64 0, .int .i64 0, .int .i64 0, .int .i64 0, .int .i64 0] (((w7.setCell ⟨w2.heap.size + 1, 4, none⟩ (.int .i64 o)).setCell ⟨w2.heap.size + 1, 5, none⟩ (.int .i64 n)).setCell ⟨w2.heap.size + 1, 6, none⟩ (.int .i64 x)) from K7.out.puts 4 [.int .i64 o, .int .i64 n, .int .i64 x])
  clear K7
  go_wp2_with fail
  clear x0 x1 x2 x3 x4 x5 x6 x7 x8 x9 x10 x11 x12 x13 x14 xf
  refine (H1_.out _).mono ?_
  rintro e w10 ⟨rfl, hh⟩
  have K10a := Lib.hid (K8.out.below hh)
  clear K8 H1_ hh
  have t_ := K10a.out.2.2.2.1.therM 7 4 (by simp)
  have K10 := Lib.hid (show MK w (w2.heap.size + 1) [.int .i64 d, .int .i64 l, .int .i64 f, .int .i64 s, .int .i64 o, .int .i64 n, .int .i64 x, .int .i64 c, .int .i64 k, .int .i64 a, .int .i64 t, .int .i64 0, .int .i64 0, .int .i64 0, .int .i64 0] (w10.setCells (w2.heap.size + 1) 7 [.int .i64 c, .int .i64 k, .int .i64 a, .int .i64 t]) from K10a.out.put 7 [.int .i64 c, .int .i64 k, .int .i64 a, .int .i64 t])
  clear K10a
  go_wp2_with (with_reducible refine isList ?_; (set_option maxRecDepth 100000 in refine stG 102 100 (w2.heap.size + 1) 7 [.int .i64 c, .int .i64 k, .int .i64 a, .int .i64 t] rfl rfl rfl rfl rfl ?_ ?_ ?_); exact t_; simp [Value.oneCell'])
  clear t_
  refine (H2_.out _).mono ?_
  rintro e w11 ⟨rfl, hh⟩
  have K11a := Lib.hid (K10.out.below hh)
  clear K10 H2_ hh
  have t_ := K11a.out.2.2.2.1.therM 11 4 (by simp)
  have K11 := Lib.hid (show MK w (w2.heap.size + 1) [.int .i64 d, .int .i64 l, .int .i64 f, .int .i64 s, .int .i64 o, .int .i64 n, .int .i64 x, .int .i64 c, .int .i64 k, .int .i64 a, .int .i64 t, .int .i64 c', .int .i64 k', .int .i64 a', .int .i64 t'] (w11.setCells (w2.heap.size + 1) 11 [.int .i64 c', .int .i64 k', .int .i64 a', .int .i64 t']) from K11a.out.put 11 [.int .i64 c', .int .i64 k', .int .i64 a', .int .i64 t'])
  clear K11a
  have hx := K11.out.2.2.2.1.fifteen
  obtain ⟨u0, u1, u2, u3, u4, u5, u6, u7, u8, u9, u10, u11, u12, u13, u14, uf⟩ := hx
  go_wp2_with (with_reducible refine isList ?_; (set_option maxRecDepth 100000 in refine stG 112 110 (w2.heap.size + 1) 11 [.int .i64 c', .int .i64 k', .int .i64 a', .int .i64 t'] rfl rfl rfl rfl rfl ?_ ?_ ?_); exact t_; simp [Value.oneCell'])
  clear t_
  clear u0 u1 u2 u3 u4 u5 u6 u7 u8 u9 u10 u11 u12 u13 u14 uf
  refine (HV_.out _).mono ?_
  rintro e w12 ⟨rfl, hh⟩
  have K12 := Lib.hid (K11.out.below hh)
  clear K11 HV_ hh
  have hx := K12.out.2.2.2.1.fifteen
  obtain ⟨u0, u1, u2, u3, u4, u5, u6, u7, u8, u9, u10, u11, u12, u13, u14, uf⟩ := hx
  go_wp2_with fail
  clear u0 u1 u2 u3 u4 u5 u6 u7 u8 u9 u10 u11 u12 u13 u14 uf
  refine (HT_.out _).mono ?_
  rintro e w13 ⟨rfl, hh⟩
  have K13 := Lib.hid (K12.out.below hh)
  clear K12 HT_ hh
  have r9 := K13.out.2.1.range
  have t9 := K13.out.1.ther (n := 15) rfl
  go_wp2_with (first | (with_reducible refine isList ?_; refine ld15 4 (w.heap.size + 1) [.int .i64 0, .int .i64 0, .int .i64 0, .int .i64 0, .int .i64 0, .int .i64 0, .int .i64 0, .int .i64 0, .int .i64 0, .int .i64 0, .int .i64 0, .int .i64 0, .int .i64 0, .int .i64 0, .int .i64 0] rfl rfl rfl rfl ?_ ?_; exact r9) | (with_reducible refine isList ?_; (set_option maxRecDepth 100000 in refine st15 2 126 w.heap.size [.int .i64 0, .int .i64 0, .int .i64 0, .int .i64 0, .int .i64 0, .int .i64 0, .int .i64 0, .int .i64 0, .int .i64 0, .int .i64 0, .int .i64 0, .int .i64 0, .int .i64 0, .int .i64 0, .int .i64 0] rfl rfl rfl rfl rfl ?_ ?_ ?_); exact t9; simp [Value.oneCell']))
  have g9 := setc_grownC w13 w.heap.size [.int .i64 0, .int .i64 0, .int .i64 0, .int .i64 0, .int .i64 0, .int .i64 0, .int .i64 0, .int .i64 0, .int .i64 0, .int .i64 0, .int .i64 0, .int .i64 0, .int .i64 0, .int .i64 0, .int .i64 0]
  have BE := Lib.hid ((K13.out).bel.grown g9 (K13.out).bel.size (fun q hq => by cases hq; exact Nat.le_refl _))
  have XR : BoxF (w13.setCells w.heap.size 0 [.int .i64 0, .int .i64 0, .int .i64 0, .int .i64 0, .int .i64 0, .int .i64 0, .int .i64 0, .int .i64 0, .int .i64 0, .int .i64 0, .int .i64 0, .int .i64 0, .int .i64 0, .int .i64 0, .int .i64 0]) w.heap.size [.int .i64 0, .int .i64 0, .int .i64 0, .int .i64 0, .int .i64 0, .int .i64 0, .int .i64 0, .int .i64 0, .int .i64 0, .int .i64 0, .int .i64 0, .int .i64 0, .int .i64 0, .int .i64 0, .int .i64 0] 37 := BoxF.setAll (vs := [.int .i64 0, .int .i64 0, .int .i64 0, .int .i64 0, .int .i64 0, .int .i64 0, .int .i64 0, .int .i64 0, .int .i64 0, .int .i64 0, .int .i64 0, .int .i64 0, .int .i64 0, .int .i64 0, .int .i64 0]) K13.out.1
  generalize w13.setCells w.heap.size 0 [.int .i64 0, .int .i64 0, .int .i64 0, .int .i64 0, .int .i64 0, .int .i64 0, .int .i64 0, .int .i64 0, .int .i64 0, .int .i64 0, .int .i64 0, .int .i64 0, .int .i64 0, .int .i64 0, .int .i64 0] = W9 at *
  obtain ⟨z0, z1, z2, z3, z4, z5, z6, z7, z8, z9, z10, z11, z12, z13, z14, zf⟩ := XR.fifteen
  exact bodyPost_ret (v := .tuple #[.agg #[.int .i64 0, .int .i64 0, .int .i64 0, .int .i64 0, .int .i64 0, .int .i64 0, .int .i64 0, .int .i64 0, .int .i64 0, .int .i64 0, .int .i64 0, .int .i64 0, .int .i64 0, .int .i64 0, .int .i64 0], .bool false]) (by simp [results, Tryd.results73, go_sem, z0, z1, z2, z3, z4, z5, z6, z7, z8, z9, z10, z11, z12, z13, z14]) rfl ⟨rfl, BE.out⟩
theorem l6P_full_011 (z F R P0 Q0 P Q Od On T : ByteArray) (d l f s gc gk ga gt o n x c k a t c' k' a' t' : Int) (ook g1 g2 r v : Bool) (w : World) (hz : ¬ (240 : Int) < (z.size : Int))
    (hC : ∀ W, Calls Tryd.prog 113 #[.string z, .string ⟨#[44, 32]⟩] W fun e w' => e = .returned (.tuple #[.string F, .string R, .bool true]) ∧ ∃ q, w' = W.drewN q)
    (hF : ∀ W, Calls Tryd.prog 114 #[.string F] W (AnsF W d l f s true))
    (hG : ∀ W, Calls Tryd.prog 115 #[.string R] W (AnsF W gc gk ga gt false))
    (hB : ∀ W, Calls Tryd.prog 113 #[.string R, .string ⟨#[32, 98, 101, 116, 119, 101, 101, 110, 32]⟩] W fun e w' => e = .returned (.tuple #[.string P0, .string Q0, .bool false]) ∧ ∃ q, w' = W.drewN q)
    (hA : ∀ W, Calls Tryd.prog 113 #[.string R, .string ⟨#[32, 97, 98, 111, 118, 101, 32]⟩] W fun e w' => e = .returned (.tuple #[.string P, .string Q, .bool true]) ∧ ∃ q, w' = W.drewN q)
    (hO : ∀ W, Calls Tryd.prog 113 #[.string P, .string ⟨#[32, 99, 104, 97, 114, 103, 101, 100, 32, 119, 105, 116, 104, 32]⟩] W fun e w' => e = .returned (.tuple #[.string Od, .string On, .bool true]) ∧ ∃ q, w' = W.drewN q)
    (hP : ∀ W, Calls Tryd.prog 29 #[.string Od] W fun e w' => e = .returned (.tuple #[.int .i64 o, .int .i64 n, .int .i64 x, .bool ook]) ∧ Below W.heap.size W w')
    (h1 : ∀ W, Calls Tryd.prog 115 #[.string On] W (AnsF W c k a t g1))
    (h2 : ∀ W, Calls Tryd.prog 115 #[.string Q] W (AnsF W c' k' a' t' g2))
    (hV : ∀ W, Calls Tryd.prog 51 #[.agg #[.int .i64 d, .int .i64 l, .int .i64 f, .int .i64 s, .int .i64 o, .int .i64 n, .int .i64 x, .int .i64 c, .int .i64 k, .int .i64 a, .int .i64 t, .int .i64 c', .int .i64 k', .int .i64 a', .int .i64 t']] W fun e w' => e = .returned (.bool r) ∧ Below W.heap.size W w')
    (hT : r = true → ∀ W, Calls Tryd.prog 52 #[.agg #[.int .i64 d, .int .i64 l, .int .i64 f, .int .i64 s, .int .i64 o, .int .i64 n, .int .i64 x, .int .i64 c, .int .i64 k, .int .i64 a, .int .i64 t, .int .i64 c', .int .i64 k', .int .i64 a', .int .i64 t']] W fun e w' => e = .returned (.string T) ∧ Below W.heap.size W w')
    (hv : (ook && (g1 && (g2 && (r && decide (T = z))))) = v) :
    Calls Tryd.prog 73 #[.string z] w (if v = true then AnsA w d l f s o n x c k a t c' k' a' t' true else AnsA w 0 0 0 0 0 0 0 0 0 0 0 0 0 0 0 false) := by
  cases ook
  · obtain rfl : v = false := by simpa using hv.symm
    exact l6P_full_011_ook z F R P0 Q0 P Q Od On d l f s gc gk ga gt o n x w hz hC hF hG hB hA hO hP
  cases g1
  · obtain rfl : v = false := by simpa using hv.symm
    exact l6P_full_011_g1 z F R P0 Q0 P Q Od On d l f s gc gk ga gt o n x c k a t w hz hC hF hG hB hA hO hP h1
  cases g2
  · obtain rfl : v = false := by simpa using hv.symm
    exact l6P_full_011_g2 z F R P0 Q0 P Q Od On d l f s gc gk ga gt o n x c k a t c' k' a' t' w hz hC hF hG hB hA hO hP h1 h2
  cases r
  · obtain rfl : v = false := by simpa using hv.symm
    exact l6P_full_011_r z F R P0 Q0 P Q Od On d l f s gc gk ga gt o n x c k a t c' k' a' t' w hz hC hF hG hB hA hO hP h1 h2 hV
  by_cases hts : T = z
  · obtain rfl : v = true := by rw [← hv]; simp [hts]
    exact l6P_full_011_eq z F R P0 Q0 P Q Od On T d l f s gc gk ga gt o n x c k a t c' k' a' t' w hz hC hF hG hB hA hO hP h1 h2 hV (hT rfl) hts
  · obtain rfl : v = false := by rw [← hv]; simp [hts]
    exact l6P_full_011_ne z F R P0 Q0 P Q Od On T d l f s gc gk ga gt o n x c k a t c' k' a' t' w hz hC hF hG hB hA hO hP h1 h2 hV (hT rfl) hts
end Go.Proofs.YtgeidnnjljpdkaaDoor
