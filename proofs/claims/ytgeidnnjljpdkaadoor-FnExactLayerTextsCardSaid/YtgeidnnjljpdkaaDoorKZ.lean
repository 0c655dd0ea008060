/- Several small texts in one: ALayers, ALayers2. -/
import Derived.Test.YtgeidnnjljpdkaaDoorKY
import Derived.Test.YtgeidnnjljpdkaaDoorK5
import Derived.Deep.RegionHeld3
namespace Go.Proofs.YtgeidnnjljpdkaaDoor
open Go.RowKit

/-- What stays over a walk: the box of the arms, all that was there, and a row of texts of its own. -/
def KR (w : World) (L : List Value) (v : Value) (X : List ByteArray) (W : World) : Prop := AK w L W ∧ W.ownsRow (w.heap.size + 1) 9 1 v X.length (X.map Value.string)
theorem KR.below {w W W' : World} {L : List Value} {v : Value} {X : List ByteArray} (h : KR w L v X W) (hb : Below W.heap.size W W') : KR w L v X W' :=
  ⟨h.1.below hb, World.ownsRow.kept (row := none) h.2 ⟨hb.os, hb.tape, hb.output, hb.size, fun i hi _ => hb.block i hi⟩ (by cases h : v.ownBlock <;> simp)⟩
theorem KR.drew {w W : World} {L : List Value} {v : Value} {X : List ByteArray} (h : KR w L v X W) : KR w L v X W.drew := h.below (Below.refl _ _).drew
theorem KR.lt {w W : World} {L : List Value} {v : Value} {X : List ByteArray} (h : KR w L v X W) : w.heap.size < W.heap.size := h.1.1.lt
theorem KR.app {w W W2 : World} {L : List Value} {v v' : Value} {X : List ByteArray} {o : Obj} {y : ByteArray} (h : KR w L v X W) (ho : W2.ownsRow (w.heap.size + 1) 9 1 v' (X.length + 1) (X.map Value.string ++ [.string y])) (hg : (W.alloc o).grownBy W2 v.ownBlock) : KR w L v' (X ++ [y]) W2 := by
  have hz := h.1.2.size
  refine ⟨⟨(h.1.1.alloc o).kept hg (fun e => ?_), (h.1.2.alloc hz o).grown hg (by simp; omega) (fun q hq => ?_)⟩, by simpa using ho⟩
  · have := (World.ownsRow.lt h.2 _ e.symm).1
    omega
  · have := (World.ownsRow.lt h.2 q hq).1
    omega
theorem KR.first {w W : World} {L : List Value} (h : AK w L W) (F : ByteArray) : KR w L (.slice (some ⟨W.heap.size, 0, none⟩) 1 1) [F] (W.alloc (.cells #[.string F] 9 (0, 0))) :=
  ⟨⟨h.1.alloc _, h.2.alloc h.2.size _⟩, ownS_lit W (w.heap.size + 1) h.1.lt [F] (by simp)⟩
theorem KR.ans {w W : World} {L : List Value} {v : Value} {X : List ByteArray} (h : KR w L v X W) (h0 : 0 < X.length) : AnsT w X true (.returned (.tuple #[v, .bool true])) W := by
  obtain ⟨g, cap, rfl, _, _⟩ := World.ownsRow.form h.2 h0
  exact ⟨_, _, rfl, ownsRow_down h.2 (by omega), h.1.2⟩
set_option maxRecDepth 100000 in
set_option maxHeartbeats 8000000 in
theorem layers_011 (d l f s n x c k a t c' k' a' t' : Int) (F : ByteArray) (w : World)  (hHV : ∀ W, Calls Tryd.prog 51 #[.agg #[.int .i64 d, .int .i64 l, .int .i64 f, .int .i64 s, .int .i64 0, .int .i64 n, .int .i64 x, .int .i64 c, .int .i64 k, .int .i64 a, .int .i64 t, .int .i64 c', .int .i64 k', .int .i64 a', .int .i64 t']] W fun e w' => e = .returned (.bool true) ∧ Below W.heap.size W w') (hHF : ∀ W, Calls Tryd.prog 84 #[.agg #[.int .i64 d, .int .i64 l, .int .i64 f, .int .i64 s]] W fun e w' => e = .returned (.string F) ∧ Below W.heap.size W w') (hHN : ∀ W, Calls Tryd.prog 85 #[.agg #[.int .i64 c, .int .i64 k, .int .i64 a, .int .i64 t]] W fun e w' => e = .returned (.bool true) ∧ Below W.heap.size W w') (hHM : ∀ W, Calls Tryd.prog 85 #[.agg #[.int .i64 c', .int .i64 k', .int .i64 a', .int .i64 t']] W fun e w' => e = .returned (.bool true) ∧ Below W.heap.size W w') :
    Calls Tryd.prog 30 #[.agg #[.int .i64 d, .int .i64 l, .int .i64 f, .int .i64 s, .int .i64 0, .int .i64 n, .int .i64 x, .int .i64 c, .int .i64 k, .int .i64 a, .int .i64 t, .int .i64 c', .int .i64 k', .int .i64 a', .int .i64 t']] w (AnsT w [F] true) := by
  obtain ⟨i0, hi, hz0, hz1, hz2⟩ := info_parts infoS
  have HV := Lib.hid hHV
  have HF := Lib.hid hHF
  have HN := Lib.hid hHN
  have HM := Lib.hid hHM
  clear hHV hHF hHN hHM
  have K0 := Lib.hid (AK.new w [.int .i64 d, .int .i64 l, .int .i64 f, .int .i64 s, .int .i64 0, .int .i64 n, .int .i64 x, .int .i64 c, .int .i64 k, .int .i64 a, .int .i64 t, .int .i64 c', .int .i64 k', .int .i64 a', .int .i64 t'])
  obtain ⟨x0, x1, x2, x3, x4, x5, x6, x7, x8, x9, x10, x11, x12, x13, x14, xf⟩ := K0.out.1.fifteen
  go_enter Tryd.func30, Tryd.ntmps30
  go_wp2_with fail
  refine (HV.out _).mono ?_
  rintro e w1 ⟨rfl, g1⟩
  clear x0 x1 x2 x3 x4 x5 x6 x7 x8 x9 x10 x11 x12 x13 x14 xf
  have K1 := Lib.hid (K0.out.below g1)
  clear g1 K0
  obtain ⟨x0, x1, x2, x3, x4, x5, x6, x7, x8, x9, x10, x11, x12, x13, x14, xf⟩ := K1.out.1.fifteen
  go_wp2_with fail
  refine (HF.out _).mono ?_
  rintro e w2 ⟨rfl, g1⟩
  clear x0 x1 x2 x3 x4 x5 x6 x7 x8 x9 x10 x11 x12 x13 x14 xf
  have K2 := Lib.hid (K1.out.below g1)
  clear g1 K1
  obtain ⟨x0, x1, x2, x3, x4, x5, x6, x7, x8, x9, x10, x11, x12, x13, x14, xf⟩ := K2.out.1.fifteen
  go_upto_region 4 with fail
  clear x0 x1 x2 x3 x4 x5 x6 x7 x8 x9 x10 x11 x12 x13 x14 xf
  have K3 := Lib.hid (KR.first K2.out F)
  clear K2
  generalize w2.alloc (.cells #[.string F] 9 (0, 0)) = w3 at *
  generalize Value.slice (some ⟨w2.heap.size, 0, none⟩) 1 1 = v3 at *
  obtain ⟨x0, x1, x2, x3, x4, x5, x6, x7, x8, x9, x10, x11, x12, x13, x14, xf⟩ := K3.out.1.1.fifteen
  go_wp2_with fail
  refine (HN.out _).mono ?_
  rintro e w4 ⟨rfl, g1⟩
  clear x0 x1 x2 x3 x4 x5 x6 x7 x8 x9 x10 x11 x12 x13 x14 xf
  have K4 := Lib.hid (K3.out.below g1)
  clear g1 K3
  obtain ⟨x0, x1, x2, x3, x4, x5, x6, x7, x8, x9, x10, x11, x12, x13, x14, xf⟩ := K4.out.1.1.fifteen
  go_wp2_with fail
  refine (HM.out _).mono ?_
  rintro e w5 ⟨rfl, g1⟩
  clear x0 x1 x2 x3 x4 x5 x6 x7 x8 x9 x10 x11 x12 x13 x14 xf
  have K5 := Lib.hid (K4.out.below g1)
  clear g1 K4
  obtain ⟨x0, x1, x2, x3, x4, x5, x6, x7, x8, x9, x10, x11, x12, x13, x14, xf⟩ := K5.out.1.1.fifteen
  go_wp2_with fail
  go_ret2
  exact K5.out.ans (by simp)
set_option maxRecDepth 100000 in
set_option maxHeartbeats 8000000 in
theorem layers_010 (d l f s n x c k a t c' k' a' t' : Int) (F H : ByteArray) (w : World)  (hHV : ∀ W, Calls Tryd.prog 51 #[.agg #[.int .i64 d, .int .i64 l, .int .i64 f, .int .i64 s, .int .i64 0, .int .i64 n, .int .i64 x, .int .i64 c, .int .i64 k, .int .i64 a, .int .i64 t, .int .i64 c', .int .i64 k', .int .i64 a', .int .i64 t']] W fun e w' => e = .returned (.bool true) ∧ Below W.heap.size W w') (hHF : ∀ W, Calls Tryd.prog 84 #[.agg #[.int .i64 d, .int .i64 l, .int .i64 f, .int .i64 s]] W fun e w' => e = .returned (.string F) ∧ Below W.heap.size W w') (hHN : ∀ W, Calls Tryd.prog 85 #[.agg #[.int .i64 c, .int .i64 k, .int .i64 a, .int .i64 t]] W fun e w' => e = .returned (.bool true) ∧ Below W.heap.size W w') (hHM : ∀ W, Calls Tryd.prog 85 #[.agg #[.int .i64 c', .int .i64 k', .int .i64 a', .int .i64 t']] W fun e w' => e = .returned (.bool false) ∧ Below W.heap.size W w') (hHH : ∀ W, Calls Tryd.prog 86 #[.agg #[.int .i64 c', .int .i64 k', .int .i64 a', .int .i64 t']] W fun e w' => e = .returned (.string H) ∧ Below W.heap.size W w') :
    Calls Tryd.prog 30 #[.agg #[.int .i64 d, .int .i64 l, .int .i64 f, .int .i64 s, .int .i64 0, .int .i64 n, .int .i64 x, .int .i64 c, .int .i64 k, .int .i64 a, .int .i64 t, .int .i64 c', .int .i64 k', .int .i64 a', .int .i64 t']] w (AnsT w [F, H] true) := by
  obtain ⟨i0, hi, hz0, hz1, hz2⟩ := info_parts infoS
  have HV := Lib.hid hHV
  have HF := Lib.hid hHF
  have HN := Lib.hid hHN
  have HM := Lib.hid hHM
  have HH := Lib.hid hHH
  clear hHV hHF hHN hHM hHH
  have K0 := Lib.hid (AK.new w [.int .i64 d, .int .i64 l, .int .i64 f, .int .i64 s, .int .i64 0, .int .i64 n, .int .i64 x, .int .i64 c, .int .i64 k, .int .i64 a, .int .i64 t, .int .i64 c', .int .i64 k', .int .i64 a', .int .i64 t'])
  obtain ⟨x0, x1, x2, x3, x4, x5, x6, x7, x8, x9, x10, x11, x12, x13, x14, xf⟩ := K0.out.1.fifteen
  go_enter Tryd.func30, Tryd.ntmps30
  go_wp2_with fail
  refine (HV.out _).mono ?_
  rintro e w1 ⟨rfl, g1⟩
  clear x0 x1 x2 x3 x4 x5 x6 x7 x8 x9 x10 x11 x12 x13 x14 xf
  have K1 := Lib.hid (K0.out.below g1)
  clear g1 K0
  obtain ⟨x0, x1, x2, x3, x4, x5, x6, x7, x8, x9, x10, x11, x12, x13, x14, xf⟩ := K1.out.1.fifteen
  go_wp2_with fail
  refine (HF.out _).mono ?_
  rintro e w2 ⟨rfl, g1⟩
  clear x0 x1 x2 x3 x4 x5 x6 x7 x8 x9 x10 x11 x12 x13 x14 xf
  have K2 := Lib.hid (K1.out.below g1)
  clear g1 K1
  obtain ⟨x0, x1, x2, x3, x4, x5, x6, x7, x8, x9, x10, x11, x12, x13, x14, xf⟩ := K2.out.1.fifteen
  go_upto_region 4 with fail
  clear x0 x1 x2 x3 x4 x5 x6 x7 x8 x9 x10 x11 x12 x13 x14 xf
  have K3 := Lib.hid (KR.first K2.out F)
  clear K2
  generalize w2.alloc (.cells #[.string F] 9 (0, 0)) = w3 at *
  generalize Value.slice (some ⟨w2.heap.size, 0, none⟩) 1 1 = v3 at *
  obtain ⟨x0, x1, x2, x3, x4, x5, x6, x7, x8, x9, x10, x11, x12, x13, x14, xf⟩ := K3.out.1.1.fifteen
  go_wp2_with fail
  refine (HN.out _).mono ?_
  rintro e w4 ⟨rfl, g1⟩
  clear x0 x1 x2 x3 x4 x5 x6 x7 x8 x9 x10 x11 x12 x13 x14 xf
  have K4 := Lib.hid (K3.out.below g1)
  clear g1 K3
  obtain ⟨x0, x1, x2, x3, x4, x5, x6, x7, x8, x9, x10, x11, x12, x13, x14, xf⟩ := K4.out.1.1.fifteen
  go_wp2_with fail
  refine (HM.out _).mono ?_
  rintro e w5 ⟨rfl, g1⟩
  clear x0 x1 x2 x3 x4 x5 x6 x7 x8 x9 x10 x11 x12 x13 x14 xf
  have K5 := Lib.hid (K4.out.below g1)
  clear g1 K4
  obtain ⟨x0, x1, x2, x3, x4, x5, x6, x7, x8, x9, x10, x11, x12, x13, x14, xf⟩ := K5.out.1.1.fifteen
  go_wp2_with fail
  refine (HH.out _).mono ?_
  rintro e w6 ⟨rfl, g1⟩
  clear x0 x1 x2 x3 x4 x5 x6 x7 x8 x9 x10 x11 x12 x13 x14 xf
  have K6 := Lib.hid (K5.out.below g1)
  clear g1 K5
  obtain ⟨x0, x1, x2, x3, x4, x5, x6, x7, x8, x9, x10, x11, x12, x13, x14, xf⟩ := K6.out.1.1.fifteen
  go_upto_region 10 with (at_builtin; refine wpList_append_own _ rfl _ _ 56 rfl (w.heap.size + 1) 9 i0 (.string ByteArray.empty) 1 16 Tryd.underlying56 hi hz0 hz1 hz2 rfl (by decide) _ _ _ rfl (K6.out.2.alloc _) ⟨w6.heap.size, 0, none⟩ 1 1 [.string H] rfl rfl (cell_one_new _ _ _) (fun x hx => by simp at hx; subst hx; rfl) (by unfold maxLen; simp) (by simp) (by have := K6.out.lt; simp; omega) ?_; intro v7 w7 hown hgrow hnil)
  clear x0 x1 x2 x3 x4 x5 x6 x7 x8 x9 x10 x11 x12 x13 x14 xf
  have K7 := Lib.hid (K6.out.app hown hgrow)
  clear hown hgrow hnil K6
  obtain ⟨x0, x1, x2, x3, x4, x5, x6, x7, x8, x9, x10, x11, x12, x13, x14, xf⟩ := K7.out.1.1.fifteen
  go_wp2_with fail
  go_ret2
  exact K7.out.ans (by simp)
set_option maxRecDepth 100000 in
set_option maxHeartbeats 8000000 in
theorem layers_111 (d l f s o n x c k a t c' k' a' t' : Int) (F O C : ByteArray) (w : World) (sO : O.size ≤ 19) (sC : C.size ≤ 6) (e0 : (0 : Int) < o) (hHV : ∀ W, Calls Tryd.prog 51 #[.agg #[.int .i64 d, .int .i64 l, .int .i64 f, .int .i64 s, .int .i64 o, .int .i64 n, .int .i64 x, .int .i64 c, .int .i64 k, .int .i64 a, .int .i64 t, .int .i64 c', .int .i64 k', .int .i64 a', .int .i64 t']] W fun e w' => e = .returned (.bool true) ∧ Below W.heap.size W w') (hHF : ∀ W, Calls Tryd.prog 84 #[.agg #[.int .i64 d, .int .i64 l, .int .i64 f, .int .i64 s]] W fun e w' => e = .returned (.string F) ∧ Below W.heap.size W w') (hHO : ∀ W, Calls Tryd.prog 65 #[.int .i64 o, .int .i64 n] W fun e w' => e = .returned (.string O) ∧ Below W.heap.size W w') (hHX : ∀ W, Calls Tryd.prog 66 #[.int .i64 x] W fun e w' => e = .returned (.string C) ∧ Below W.heap.size W w') (hHN : ∀ W, Calls Tryd.prog 85 #[.agg #[.int .i64 c, .int .i64 k, .int .i64 a, .int .i64 t]] W fun e w' => e = .returned (.bool true) ∧ Below W.heap.size W w') (hHM : ∀ W, Calls Tryd.prog 85 #[.agg #[.int .i64 c', .int .i64 k', .int .i64 a', .int .i64 t']] W fun e w' => e = .returned (.bool true) ∧ Below W.heap.size W w') :
    Calls Tryd.prog 30 #[.agg #[.int .i64 d, .int .i64 l, .int .i64 f, .int .i64 s, .int .i64 o, .int .i64 n, .int .i64 x, .int .i64 c, .int .i64 k, .int .i64 a, .int .i64 t, .int .i64 c', .int .i64 k', .int .i64 a', .int .i64 t']] w (AnsT w [F, O ++ ⟨#[32]⟩ ++ C] true) := by
  obtain ⟨i0, hi, hz0, hz1, hz2⟩ := info_parts infoS
  have n0 : ¬ 9223372036854775807 < O.size + 1 := by omega
  have n1 : ¬ 9223372036854775807 < O.size + 1 + C.size := by omega
  have HV := Lib.hid hHV
  have HF := Lib.hid hHF
  have HO := Lib.hid hHO
  have HX := Lib.hid hHX
  have HN := Lib.hid hHN
  have HM := Lib.hid hHM
  clear hHV hHF hHO hHX hHN hHM
  have K0 := Lib.hid (AK.new w [.int .i64 d, .int .i64 l, .int .i64 f, .int .i64 s, .int .i64 o, .int .i64 n, .int .i64 x, .int .i64 c, .int .i64 k, .int .i64 a, .int .i64 t, .int .i64 c', .int .i64 k', .int .i64 a', .int .i64 t'])
  obtain ⟨x0, x1, x2, x3, x4, x5, x6, x7, x8, x9, x10, x11, x12, x13, x14, xf⟩ := K0.out.1.fifteen
  go_enter Tryd.func30, Tryd.ntmps30
  go_wp2_with fail
  refine (HV.out _).mono ?_
  rintro e w1 ⟨rfl, g1⟩
  clear x0 x1 x2 x3 x4 x5 x6 x7 x8 x9 x10 x11 x12 x13 x14 xf
  have K1 := Lib.hid (K0.out.below g1)
  clear g1 K0
  obtain ⟨x0, x1, x2, x3, x4, x5, x6, x7, x8, x9, x10, x11, x12, x13, x14, xf⟩ := K1.out.1.fifteen
  go_wp2_with fail
  refine (HF.out _).mono ?_
  rintro e w2 ⟨rfl, g1⟩
  clear x0 x1 x2 x3 x4 x5 x6 x7 x8 x9 x10 x11 x12 x13 x14 xf
  have K2 := Lib.hid (K1.out.below g1)
  clear g1 K1
  obtain ⟨x0, x1, x2, x3, x4, x5, x6, x7, x8, x9, x10, x11, x12, x13, x14, xf⟩ := K2.out.1.fifteen
  go_upto_region 4 with fail
  clear x0 x1 x2 x3 x4 x5 x6 x7 x8 x9 x10 x11 x12 x13 x14 xf
  have K3 := Lib.hid (KR.first K2.out F)
  clear K2
  generalize w2.alloc (.cells #[.string F] 9 (0, 0)) = w3 at *
  generalize Value.slice (some ⟨w2.heap.size, 0, none⟩) 1 1 = v3 at *
  obtain ⟨x0, x1, x2, x3, x4, x5, x6, x7, x8, x9, x10, x11, x12, x13, x14, xf⟩ := K3.out.1.1.fifteen
  go_upto_region 5 with fail
  clear x0 x1 x2 x3 x4 x5 x6 x7 x8 x9 x10 x11 x12 x13 x14 xf
  have q_ : ∀ W, AK w [.int .i64 d, .int .i64 l, .int .i64 f, .int .i64 s, .int .i64 o, .int .i64 n, .int .i64 x, .int .i64 c, .int .i64 k, .int .i64 a, .int .i64 t, .int .i64 c', .int .i64 k', .int .i64 a', .int .i64 t'] W → (W.cell? ⟨w.heap.size, 4, none⟩ = some (.int .i64 o) ∧ W.cell? ⟨w.heap.size, 5, none⟩ = some (.int .i64 n) ∧ W.cell? ⟨w.heap.size, 6, none⟩ = some (.int .i64 x)) := fun W h => ⟨h.1.at 4, h.1.at 5, h.1.at 6⟩
  have KD := Lib.hid K3.out.drew
  clear K3
  have hS0 := q_ _ KD.out.1
  refine wp_region_noPanic ?_
  refine wp_region_held_drew (S := fun w' => w'.cell? ⟨w.heap.size, 4, none⟩ = some (.int .i64 o) ∧ w'.cell? ⟨w.heap.size, 5, none⟩ = some (.int .i64 n) ∧ w'.cell? ⟨w.heap.size, 6, none⟩ = some (.int .i64 x)) (by kernel_rfl) hS0 (fun hHeld => ?_)
  clear hS0
  generalize w3.drew = Wd at *
  refine wpAnyH_take (i := 0) (oi := { dst := some 16, op := _, type := _, pos := _, after := _, guard := none }) (v := ?_) rfl (by kernel_rfl) (by kernel_rfl) (by kernel_rfl) (fun _ _ _ h => h) (Or.inl ⟨by rfl, ?_⟩) hHeld ?_
  rotate_left
  · (intro w hSw; clear hSw; go_simp; first | done | with_reducible rfl)
  set_option linter.unusedSimpArgs false in try simp only [Act.put, List.setIfInBounds_toArray, List.set_cons_zero, List.set_cons_succ]
  refine wpAnyH_take (i := 1) (oi := { dst := some 17, op := _, type := _, pos := _, after := _, guard := none }) (v := ?_) rfl (by kernel_rfl) (by kernel_rfl) (by kernel_rfl) (fun _ _ _ h => h) (Or.inl ⟨by rfl, ?_⟩) hHeld ?_
  rotate_left
  · (intro w hSw; clear hSw; go_simp; first | done | with_reducible rfl)
  set_option linter.unusedSimpArgs false in try simp only [Act.put, List.setIfInBounds_toArray, List.set_cons_zero, List.set_cons_succ]
  refine wpAnyH_take (i := 2) (oi := { dst := some 18, op := _, type := _, pos := _, after := _, guard := none }) (v := ?_) rfl (by kernel_rfl) (by kernel_rfl) (by kernel_rfl) (fun _ _ _ h => h) (Or.inl ⟨by rfl, ?_⟩) hHeld ?_
  rotate_left
  · (intro w hSw; obtain ⟨y1, y2, y3⟩ := hSw; go_simp; first | done | with_reducible rfl)
  set_option linter.unusedSimpArgs false in try simp only [Act.put, List.setIfInBounds_toArray, List.set_cons_zero, List.set_cons_succ]
  refine wpAnyH_take (i := 3) (oi := { dst := some 19, op := _, type := _, pos := _, after := _, guard := none }) (v := ?_) rfl (by kernel_rfl) (by kernel_rfl) (by kernel_rfl) (fun _ _ _ h => h) (Or.inl ⟨by rfl, ?_⟩) hHeld ?_
  rotate_left
  · (intro w hSw; clear hSw; go_simp; first | done | with_reducible rfl)
  set_option linter.unusedSimpArgs false in try simp only [Act.put, List.setIfInBounds_toArray, List.set_cons_zero, List.set_cons_succ]
  refine wpAnyH_take (i := 4) (oi := { dst := some 20, op := _, type := _, pos := _, after := _, guard := none }) (v := ?_) rfl (by kernel_rfl) (by kernel_rfl) (by kernel_rfl) (fun _ _ _ h => h) (Or.inl ⟨by rfl, ?_⟩) hHeld ?_
  rotate_left
  · (intro w hSw; obtain ⟨y1, y2, y3⟩ := hSw; go_simp; first | done | with_reducible rfl)
  set_option linter.unusedSimpArgs false in try simp only [Act.put, List.setIfInBounds_toArray, List.set_cons_zero, List.set_cons_succ]
  refine wpAnyH_take (i := 7) (oi := { dst := some 23, op := _, type := _, pos := _, after := _, guard := none }) (v := ?_) rfl (by kernel_rfl) (by kernel_rfl) (by kernel_rfl) (fun _ _ _ h => h) (Or.inl ⟨by rfl, ?_⟩) hHeld ?_
  rotate_left
  · (intro w hSw; clear hSw; go_simp; first | done | with_reducible rfl)
  set_option linter.unusedSimpArgs false in try simp only [Act.put, List.setIfInBounds_toArray, List.set_cons_zero, List.set_cons_succ]
  refine wpAnyH_take (i := 8) (oi := { dst := some 24, op := _, type := _, pos := _, after := _, guard := none }) (v := ?_) rfl (by kernel_rfl) (by kernel_rfl) (by kernel_rfl) (fun _ _ _ h => h) (Or.inl ⟨by rfl, ?_⟩) hHeld ?_
  rotate_left
  · (intro w hSw; obtain ⟨y1, y2, y3⟩ := hSw; go_simp; first | done | with_reducible rfl)
  set_option linter.unusedSimpArgs false in try simp only [Act.put, List.setIfInBounds_toArray, List.set_cons_zero, List.set_cons_succ]
  refine wpAnyH_ready (rs := [5]) (by kernel_rfl) (by simp) ?_
  refine AllReadyH.cons rfl (fun K hK => ?_) ?_
  rotate_left
  · exact AllReadyH.nil
  go_simp
  refine (HO.out _).mono ?_
  rintro e V1 ⟨rfl, g1⟩
  have KE := Lib.hid (KD.out.below g1)
  clear g1 KD
  have hS := q_ _ KE.out.1
  go_wp2_with fail
  refine hK.out _ _ hS (fun hHeld => ?_)
  clear hK K hS
  set_option linter.unusedSimpArgs false in try simp only [Act.put, List.setIfInBounds_toArray, List.set_cons_zero, List.set_cons_succ]
  refine wpAnyH_take (i := 6) (oi := { dst := some 22, op := _, type := _, pos := _, after := _, guard := none }) (v := ?_) rfl (by kernel_rfl) (by kernel_rfl) (by kernel_rfl) (fun _ _ _ h => h) (Or.inl ⟨by rfl, ?_⟩) hHeld ?_
  rotate_left
  · (intro w hSw; clear hSw; go_simp; first | done | with_reducible rfl)
  set_option linter.unusedSimpArgs false in try simp only [Act.put, List.setIfInBounds_toArray, List.set_cons_zero, List.set_cons_succ]
  refine wpAnyH_ready (rs := [9]) (by kernel_rfl) (by simp) ?_
  refine AllReadyH.cons rfl (fun K hK => ?_) ?_
  rotate_left
  · exact AllReadyH.nil
  go_simp
  refine (HX.out _).mono ?_
  rintro e V2 ⟨rfl, g1⟩
  have KF := Lib.hid (KE.out.below g1)
  clear g1 KE
  have hS := q_ _ KF.out.1
  go_wp2_with fail
  refine hK.out _ _ hS (fun hHeld => ?_)
  clear hK K hS
  set_option linter.unusedSimpArgs false in try simp only [Act.put, List.setIfInBounds_toArray, List.set_cons_zero, List.set_cons_succ]
  refine wpAnyH_take (i := 10) (oi := { dst := some 26, op := _, type := _, pos := _, after := _, guard := none }) (v := ?_) rfl (by kernel_rfl) (by kernel_rfl) (by kernel_rfl) (fun _ _ _ h => h) (Or.inl ⟨by rfl, ?_⟩) hHeld ?_
  rotate_left
  · (intro w hSw; clear hSw; go_simp; first | done | with_reducible rfl)
  set_option linter.unusedSimpArgs false in try simp only [Act.put, List.setIfInBounds_toArray, List.set_cons_zero, List.set_cons_succ]
  refine wpAnyH_ready (rs := [11]) (by kernel_rfl) (by simp) ?_
  refine AllReadyH.cons rfl (fun K hK => ?_) ?_
  rotate_left
  · exact AllReadyH.nil
  go_simp
  have hS := q_ _ (show AK w [.int .i64 d, .int .i64 l, .int .i64 f, .int .i64 s, .int .i64 o, .int .i64 n, .int .i64 x, .int .i64 c, .int .i64 k, .int .i64 a, .int .i64 t, .int .i64 c', .int .i64 k', .int .i64 a', .int .i64 t'] (V2.alloc (.cells #[.string (O ++ ⟨#[32]⟩ ++ C)] 9 (0, 0))) from ⟨KF.out.1.1.alloc _, KF.out.1.2.alloc KF.out.1.2.size _⟩)
  refine hK.out _ _ hS (fun hHeld => ?_)
  clear hK K hS
  set_option linter.unusedSimpArgs false in try simp only [Act.put, List.setIfInBounds_toArray, List.set_cons_zero, List.set_cons_succ]
  refine wpAnyH_ready (rs := [12]) (by kernel_rfl) (by simp) ?_
  refine AllReadyH.cons rfl (fun K hK => ?_) ?_
  rotate_left
  · exact AllReadyH.nil
  refine step_append_lies (o := { dst := some 28, op := _, type := _, pos := _, after := _, guard := none }) _ rfl (.tmp 16) (.tmp 27) 56 rfl (w.heap.size + 1) 9 i0 (.string ByteArray.empty) 1 16 Tryd.underlying56 hi hz0 hz1 hz2 rfl (by decide) v3 _ _ rfl (KF.out.2.alloc _) ⟨V2.heap.size, 0, none⟩ 1 1 [.string (O ++ ⟨#[32]⟩ ++ C)] rfl rfl (cell_one_new _ _ _) (fun x hx => by simp at hx; subst hx; rfl) (by decide) (by unfold maxLen; simp) (by simp) (by have := KF.out.lt; simp; omega) _ rfl ?_
  intro g6 cap6 w6 ho6 hg6 _ _
  have K6 := Lib.hid (KF.out.app ho6 hg6)
  have hS := q_ _ K6.out.1
  refine hK.out _ _ hS (fun hHeld => ?_)
  clear hK K hS ho6 hg6 KF
  set_option linter.unusedSimpArgs false in try simp only [Act.put, List.setIfInBounds_toArray, List.set_cons_zero, List.set_cons_succ]
  refine wpAnyH_take (i := 13) (oi := { dst := some 4, op := _, type := _, pos := _, after := _, guard := none }) (v := ?_) rfl (by kernel_rfl) (by kernel_rfl) (by kernel_rfl) (fun _ _ _ h => h) (Or.inl ⟨by rfl, ?_⟩) hHeld ?_
  rotate_left
  · (intro w hSw; clear hSw; go_simp; first | done | with_reducible rfl)
  set_option linter.unusedSimpArgs false in try simp only [Act.put, List.setIfInBounds_toArray, List.set_cons_zero, List.set_cons_succ]
  refine wpAnyH_done (by kernel_rfl) ?_ _
  refine NoPanic.normal ?_
  clear hHeld q_
  generalize Value.slice (some ⟨g6, 0, none⟩) ([F].length + 1) cap6 = v6 at *
  obtain ⟨x0, x1, x2, x3, x4, x5, x6, x7, x8, x9, x10, x11, x12, x13, x14, xf⟩ := K6.out.1.1.fifteen
  go_wp2_with fail
  refine (HN.out _).mono ?_
  rintro e w7 ⟨rfl, g1⟩
  clear x0 x1 x2 x3 x4 x5 x6 x7 x8 x9 x10 x11 x12 x13 x14 xf
  have K7 := Lib.hid (K6.out.below g1)
  clear g1 K6
  obtain ⟨x0, x1, x2, x3, x4, x5, x6, x7, x8, x9, x10, x11, x12, x13, x14, xf⟩ := K7.out.1.1.fifteen
  go_wp2_with fail
  refine (HM.out _).mono ?_
  rintro e w8 ⟨rfl, g1⟩
  clear x0 x1 x2 x3 x4 x5 x6 x7 x8 x9 x10 x11 x12 x13 x14 xf
  have K8 := Lib.hid (K7.out.below g1)
  clear g1 K7
  obtain ⟨x0, x1, x2, x3, x4, x5, x6, x7, x8, x9, x10, x11, x12, x13, x14, xf⟩ := K8.out.1.1.fifteen
  go_wp2_with fail
  go_ret2
  exact K8.out.ans (by simp)
set_option maxRecDepth 100000 in
set_option maxHeartbeats 8000000 in
theorem layers_110 (d l f s o n x c k a t c' k' a' t' : Int) (F O C H : ByteArray) (w : World) (sO : O.size ≤ 19) (sC : C.size ≤ 6) (e0 : (0 : Int) < o) (hHV : ∀ W, Calls Tryd.prog 51 #[.agg #[.int .i64 d, .int .i64 l, .int .i64 f, .int .i64 s, .int .i64 o, .int .i64 n, .int .i64 x, .int .i64 c, .int .i64 k, .int .i64 a, .int .i64 t, .int .i64 c', .int .i64 k', .int .i64 a', .int .i64 t']] W fun e w' => e = .returned (.bool true) ∧ Below W.heap.size W w') (hHF : ∀ W, Calls Tryd.prog 84 #[.agg #[.int .i64 d, .int .i64 l, .int .i64 f, .int .i64 s]] W fun e w' => e = .returned (.string F) ∧ Below W.heap.size W w') (hHO : ∀ W, Calls Tryd.prog 65 #[.int .i64 o, .int .i64 n] W fun e w' => e = .returned (.string O) ∧ Below W.heap.size W w') (hHX : ∀ W, Calls Tryd.prog 66 #[.int .i64 x] W fun e w' => e = .returned (.string C) ∧ Below W.heap.size W w') (hHN : ∀ W, Calls Tryd.prog 85 #[.agg #[.int .i64 c, .int .i64 k, .int .i64 a, .int .i64 t]] W fun e w' => e = .returned (.bool true) ∧ Below W.heap.size W w') (hHM : ∀ W, Calls Tryd.prog 85 #[.agg #[.int .i64 c', .int .i64 k', .int .i64 a', .int .i64 t']] W fun e w' => e = .returned (.bool false) ∧ Below W.heap.size W w') (hHH : ∀ W, Calls Tryd.prog 86 #[.agg #[.int .i64 c', .int .i64 k', .int .i64 a', .int .i64 t']] W fun e w' => e = .returned (.string H) ∧ Below W.heap.size W w') :
    Calls Tryd.prog 30 #[.agg #[.int .i64 d, .int .i64 l, .int .i64 f, .int .i64 s, .int .i64 o, .int .i64 n, .int .i64 x, .int .i64 c, .int .i64 k, .int .i64 a, .int .i64 t, .int .i64 c', .int .i64 k', .int .i64 a', .int .i64 t']] w (AnsT w [F, O ++ ⟨#[32]⟩ ++ C, H] true) := by
  obtain ⟨i0, hi, hz0, hz1, hz2⟩ := info_parts infoS
  have n0 : ¬ 9223372036854775807 < O.size + 1 := by omega
  have n1 : ¬ 9223372036854775807 < O.size + 1 + C.size := by omega
  have HV := Lib.hid hHV
  have HF := Lib.hid hHF
  have HO := Lib.hid hHO
  have HX := Lib.hid hHX
  have HN := Lib.hid hHN
  have HM := Lib.hid hHM
  have HH := Lib.hid hHH
  clear hHV hHF hHO hHX hHN hHM hHH
  have K0 := Lib.hid (AK.new w [.int .i64 d, .int .i64 l, .int .i64 f, .int .i64 s, .int .i64 o, .int .i64 n, .int .i64 x, .int .i64 c, .int .i64 k, .int .i64 a, .int .i64 t, .int .i64 c', .int .i64 k', .int .i64 a', .int .i64 t'])
  obtain ⟨x0, x1, x2, x3, x4, x5, x6, x7, x8, x9, x10, x11, x12, x13, x14, xf⟩ := K0.out.1.fifteen
  go_enter Tryd.func30, Tryd.ntmps30
  go_wp2_with fail
  refine (HV.out _).mono ?_
  rintro e w1 ⟨rfl, g1⟩
  clear x0 x1 x2 x3 x4 x5 x6 x7 x8 x9 x10 x11 x12 x13 x14 xf
  have K1 := Lib.hid (K0.out.below g1)
  clear g1 K0
  obtain ⟨x0, x1, x2, x3, x4, x5, x6, x7, x8, x9, x10, x11, x12, x13, x14, xf⟩ := K1.out.1.fifteen
  go_wp2_with fail
  refine (HF.out _).mono ?_
  rintro e w2 ⟨rfl, g1⟩
  clear x0 x1 x2 x3 x4 x5 x6 x7 x8 x9 x10 x11 x12 x13 x14 xf
  have K2 := Lib.hid (K1.out.below g1)
  clear g1 K1
  obtain ⟨x0, x1, x2, x3, x4, x5, x6, x7, x8, x9, x10, x11, x12, x13, x14, xf⟩ := K2.out.1.fifteen
  go_upto_region 4 with fail
  clear x0 x1 x2 x3 x4 x5 x6 x7 x8 x9 x10 x11 x12 x13 x14 xf
  have K3 := Lib.hid (KR.first K2.out F)
  clear K2
  generalize w2.alloc (.cells #[.string F] 9 (0, 0)) = w3 at *
  generalize Value.slice (some ⟨w2.heap.size, 0, none⟩) 1 1 = v3 at *
  obtain ⟨x0, x1, x2, x3, x4, x5, x6, x7, x8, x9, x10, x11, x12, x13, x14, xf⟩ := K3.out.1.1.fifteen
  go_upto_region 5 with fail
  clear x0 x1 x2 x3 x4 x5 x6 x7 x8 x9 x10 x11 x12 x13 x14 xf
  have q_ : ∀ W, AK w [.int .i64 d, .int .i64 l, .int .i64 f, .int .i64 s, .int .i64 o, .int .i64 n, .int .i64 x, .int .i64 c, .int .i64 k, .int .i64 a, .int .i64 t, .int .i64 c', .int .i64 k', .int .i64 a', .int .i64 t'] W → (W.cell? ⟨w.heap.size, 4, none⟩ = some (.int .i64 o) ∧ W.cell? ⟨w.heap.size, 5, none⟩ = some (.int .i64 n) ∧ W.cell? ⟨w.heap.size, 6, none⟩ = some (.int .i64 x)) := fun W h => ⟨h.1.at 4, h.1.at 5, h.1.at 6⟩
  have KD := Lib.hid K3.out.drew
  clear K3
  have hS0 := q_ _ KD.out.1
  refine wp_region_noPanic ?_
  refine wp_region_held_drew (S := fun w' => w'.cell? ⟨w.heap.size, 4, none⟩ = some (.int .i64 o) ∧ w'.cell? ⟨w.heap.size, 5, none⟩ = some (.int .i64 n) ∧ w'.cell? ⟨w.heap.size, 6, none⟩ = some (.int .i64 x)) (by kernel_rfl) hS0 (fun hHeld => ?_)
  clear hS0
  generalize w3.drew = Wd at *
  refine wpAnyH_take (i := 0) (oi := { dst := some 16, op := _, type := _, pos := _, after := _, guard := none }) (v := ?_) rfl (by kernel_rfl) (by kernel_rfl) (by kernel_rfl) (fun _ _ _ h => h) (Or.inl ⟨by rfl, ?_⟩) hHeld ?_
  rotate_left
  · (intro w hSw; clear hSw; go_simp; first | done | with_reducible rfl)
  set_option linter.unusedSimpArgs false in try simp only [Act.put, List.setIfInBounds_toArray, List.set_cons_zero, List.set_cons_succ]
  refine wpAnyH_take (i := 1) (oi := { dst := some 17, op := _, type := _, pos := _, after := _, guard := none }) (v := ?_) rfl (by kernel_rfl) (by kernel_rfl) (by kernel_rfl) (fun _ _ _ h => h) (Or.inl ⟨by rfl, ?_⟩) hHeld ?_
  rotate_left
  · (intro w hSw; clear hSw; go_simp; first | done | with_reducible rfl)
  set_option linter.unusedSimpArgs false in try simp only [Act.put, List.setIfInBounds_toArray, List.set_cons_zero, List.set_cons_succ]
  refine wpAnyH_take (i := 2) (oi := { dst := some 18, op := _, type := _, pos := _, after := _, guard := none }) (v := ?_) rfl (by kernel_rfl) (by kernel_rfl) (by kernel_rfl) (fun _ _ _ h => h) (Or.inl ⟨by rfl, ?_⟩) hHeld ?_
  rotate_left
  · (intro w hSw; obtain ⟨y1, y2, y3⟩ := hSw; go_simp; first | done | with_reducible rfl)
  set_option linter.unusedSimpArgs false in try simp only [Act.put, List.setIfInBounds_toArray, List.set_cons_zero, List.set_cons_succ]
  refine wpAnyH_take (i := 3) (oi := { dst := some 19, op := _, type := _, pos := _, after := _, guard := none }) (v := ?_) rfl (by kernel_rfl) (by kernel_rfl) (by kernel_rfl) (fun _ _ _ h => h) (Or.inl ⟨by rfl, ?_⟩) hHeld ?_
  rotate_left
  · (intro w hSw; clear hSw; go_simp; first | done | with_reducible rfl)
  set_option linter.unusedSimpArgs false in try simp only [Act.put, List.setIfInBounds_toArray, List.set_cons_zero, List.set_cons_succ]
  refine wpAnyH_take (i := 4) (oi := { dst := some 20, op := _, type := _, pos := _, after := _, guard := none }) (v := ?_) rfl (by kernel_rfl) (by kernel_rfl) (by kernel_rfl) (fun _ _ _ h => h) (Or.inl ⟨by rfl, ?_⟩) hHeld ?_
  rotate_left
  · (intro w hSw; obtain ⟨y1, y2, y3⟩ := hSw; go_simp; first | done | with_reducible rfl)
  set_option linter.unusedSimpArgs false in try simp only [Act.put, List.setIfInBounds_toArray, List.set_cons_zero, List.set_cons_succ]
  refine wpAnyH_take (i := 7) (oi := { dst := some 23, op := _, type := _, pos := _, after := _, guard := none }) (v := ?_) rfl (by kernel_rfl) (by kernel_rfl) (by kernel_rfl) (fun _ _ _ h => h) (Or.inl ⟨by rfl, ?_⟩) hHeld ?_
  rotate_left
  · (intro w hSw; clear hSw; go_simp; first | done | with_reducible rfl)
  set_option linter.unusedSimpArgs false in try simp only [Act.put, List.setIfInBounds_toArray, List.set_cons_zero, List.set_cons_succ]
  refine wpAnyH_take (i := 8) (oi := { dst := some 24, op := _, type := _, pos := _, after := _, guard := none }) (v := ?_) rfl (by kernel_rfl) (by kernel_rfl) (by kernel_rfl) (fun _ _ _ h => h) (Or.inl ⟨by rfl, ?_⟩) hHeld ?_
  rotate_left
  · (intro w hSw; obtain ⟨y1, y2, y3⟩ := hSw; go_simp; first | done | with_reducible rfl)
  set_option linter.unusedSimpArgs false in try simp only [Act.put, List.setIfInBounds_toArray, List.set_cons_zero, List.set_cons_succ]
  refine wpAnyH_ready (rs := [5]) (by kernel_rfl) (by simp) ?_
  refine AllReadyH.cons rfl (fun K hK => ?_) ?_
  rotate_left
  · exact AllReadyH.nil
  go_simp
  refine (HO.out _).mono ?_
  rintro e V1 ⟨rfl, g1⟩
  have KE := Lib.hid (KD.out.below g1)
  clear g1 KD
  have hS := q_ _ KE.out.1
  go_wp2_with fail
  refine hK.out _ _ hS (fun hHeld => ?_)
  clear hK K hS
  set_option linter.unusedSimpArgs false in try simp only [Act.put, List.setIfInBounds_toArray, List.set_cons_zero, List.set_cons_succ]
  refine wpAnyH_take (i := 6) (oi := { dst := some 22, op := _, type := _, pos := _, after := _, guard := none }) (v := ?_) rfl (by kernel_rfl) (by kernel_rfl) (by kernel_rfl) (fun _ _ _ h => h) (Or.inl ⟨by rfl, ?_⟩) hHeld ?_
  rotate_left
  · (intro w hSw; clear hSw; go_simp; first | done | with_reducible rfl)
  set_option linter.unusedSimpArgs false in try simp only [Act.put, List.setIfInBounds_toArray, List.set_cons_zero, List.set_cons_succ]
  refine wpAnyH_ready (rs := [9]) (by kernel_rfl) (by simp) ?_
  refine AllReadyH.cons rfl (fun K hK => ?_) ?_
  rotate_left
  · exact AllReadyH.nil
  go_simp
  refine (HX.out _).mono ?_
  rintro e V2 ⟨rfl, g1⟩
  have KF := Lib.hid (KE.out.below g1)
  clear g1 KE
  have hS := q_ _ KF.out.1
  go_wp2_with fail
  refine hK.out _ _ hS (fun hHeld => ?_)
  clear hK K hS
  set_option linter.unusedSimpArgs false in try simp only [Act.put, List.setIfInBounds_toArray, List.set_cons_zero, List.set_cons_succ]
  refine wpAnyH_take (i := 10) (oi := { dst := some 26, op := _, type := _, pos := _, after := _, guard := none }) (v := ?_) rfl (by kernel_rfl) (by kernel_rfl) (by kernel_rfl) (fun _ _ _ h => h) (Or.inl ⟨by rfl, ?_⟩) hHeld ?_
  rotate_left
  · (intro w hSw; clear hSw; go_simp; first | done | with_reducible rfl)
  set_option linter.unusedSimpArgs false in try simp only [Act.put, List.setIfInBounds_toArray, List.set_cons_zero, List.set_cons_succ]
  refine wpAnyH_ready (rs := [11]) (by kernel_rfl) (by simp) ?_
  refine AllReadyH.cons rfl (fun K hK => ?_) ?_
  rotate_left
  · exact AllReadyH.nil
  go_simp
  have hS := q_ _ (show AK w [.int .i64 d, .int .i64 l, .int .i64 f, .int .i64 s, .int .i64 o, .int .i64 n, .int .i64 x, .int .i64 c, .int .i64 k, .int .i64 a, .int .i64 t, .int .i64 c', .int .i64 k', .int .i64 a', .int .i64 t'] (V2.alloc (.cells #[.string (O ++ ⟨#[32]⟩ ++ C)] 9 (0, 0))) from ⟨KF.out.1.1.alloc _, KF.out.1.2.alloc KF.out.1.2.size _⟩)
  refine hK.out _ _ hS (fun hHeld => ?_)
  clear hK K hS
  set_option linter.unusedSimpArgs false in try simp only [Act.put, List.setIfInBounds_toArray, List.set_cons_zero, List.set_cons_succ]
  refine wpAnyH_ready (rs := [12]) (by kernel_rfl) (by simp) ?_
  refine AllReadyH.cons rfl (fun K hK => ?_) ?_
  rotate_left
  · exact AllReadyH.nil
  refine step_append_lies (o := { dst := some 28, op := _, type := _, pos := _, after := _, guard := none }) _ rfl (.tmp 16) (.tmp 27) 56 rfl (w.heap.size + 1) 9 i0 (.string ByteArray.empty) 1 16 Tryd.underlying56 hi hz0 hz1 hz2 rfl (by decide) v3 _ _ rfl (KF.out.2.alloc _) ⟨V2.heap.size, 0, none⟩ 1 1 [.string (O ++ ⟨#[32]⟩ ++ C)] rfl rfl (cell_one_new _ _ _) (fun x hx => by simp at hx; subst hx; rfl) (by decide) (by unfold maxLen; simp) (by simp) (by have := KF.out.lt; simp; omega) _ rfl ?_
  intro g6 cap6 w6 ho6 hg6 _ _
  have K6 := Lib.hid (KF.out.app ho6 hg6)
  have hS := q_ _ K6.out.1
  refine hK.out _ _ hS (fun hHeld => ?_)
  clear hK K hS ho6 hg6 KF
  set_option linter.unusedSimpArgs false in try simp only [Act.put, List.setIfInBounds_toArray, List.set_cons_zero, List.set_cons_succ]
  refine wpAnyH_take (i := 13) (oi := { dst := some 4, op := _, type := _, pos := _, after := _, guard := none }) (v := ?_) rfl (by kernel_rfl) (by kernel_rfl) (by kernel_rfl) (fun _ _ _ h => h) (Or.inl ⟨by rfl, ?_⟩) hHeld ?_
  rotate_left
  · (intro w hSw; clear hSw; go_simp; first | done | with_reducible rfl)
  set_option linter.unusedSimpArgs false in try simp only [Act.put, List.setIfInBounds_toArray, List.set_cons_zero, List.set_cons_succ]
  refine wpAnyH_done (by kernel_rfl) ?_ _
  refine NoPanic.normal ?_
  clear hHeld q_
  generalize Value.slice (some ⟨g6, 0, none⟩) ([F].length + 1) cap6 = v6 at *
  obtain ⟨x0, x1, x2, x3, x4, x5, x6, x7, x8, x9, x10, x11, x12, x13, x14, xf⟩ := K6.out.1.1.fifteen
  go_wp2_with fail
  refine (HN.out _).mono ?_
  rintro e w7 ⟨rfl, g1⟩
  clear x0 x1 x2 x3 x4 x5 x6 x7 x8 x9 x10 x11 x12 x13 x14 xf
  have K7 := Lib.hid (K6.out.below g1)
  clear g1 K6
  obtain ⟨x0, x1, x2, x3, x4, x5, x6, x7, x8, x9, x10, x11, x12, x13, x14, xf⟩ := K7.out.1.1.fifteen
  go_wp2_with fail
  refine (HM.out _).mono ?_
  rintro e w8 ⟨rfl, g1⟩
  clear x0 x1 x2 x3 x4 x5 x6 x7 x8 x9 x10 x11 x12 x13 x14 xf
  have K8 := Lib.hid (K7.out.below g1)
  clear g1 K7
  obtain ⟨x0, x1, x2, x3, x4, x5, x6, x7, x8, x9, x10, x11, x12, x13, x14, xf⟩ := K8.out.1.1.fifteen
  go_wp2_with fail
  refine (HH.out _).mono ?_
  rintro e w9 ⟨rfl, g1⟩
  clear x0 x1 x2 x3 x4 x5 x6 x7 x8 x9 x10 x11 x12 x13 x14 xf
  have K9 := Lib.hid (K8.out.below g1)
  clear g1 K8
  obtain ⟨x0, x1, x2, x3, x4, x5, x6, x7, x8, x9, x10, x11, x12, x13, x14, xf⟩ := K9.out.1.1.fifteen
  go_upto_region 10 with (at_builtin; refine wpList_append_own _ rfl _ _ 56 rfl (w.heap.size + 1) 9 i0 (.string ByteArray.empty) 1 16 Tryd.underlying56 hi hz0 hz1 hz2 rfl (by decide) _ _ _ rfl (K9.out.2.alloc _) ⟨w9.heap.size, 0, none⟩ 1 1 [.string H] rfl rfl (cell_one_new _ _ _) (fun x hx => by simp at hx; subst hx; rfl) (by unfold maxLen; simp) (by simp) (by have := K9.out.lt; simp; omega) ?_; intro v10 w10 hown hgrow hnil)
  clear x0 x1 x2 x3 x4 x5 x6 x7 x8 x9 x10 x11 x12 x13 x14 xf
  have K10 := Lib.hid (K9.out.app hown hgrow)
  clear hown hgrow hnil K9
  obtain ⟨x0, x1, x2, x3, x4, x5, x6, x7, x8, x9, x10, x11, x12, x13, x14, xf⟩ := K10.out.1.1.fifteen
  go_wp2_with fail
  go_ret2
  exact K10.out.ans (by simp)
set_option maxRecDepth 100000 in
set_option maxHeartbeats 8000000 in
theorem layers_101 (d l f s o n x c k a t c' k' a' t' : Int) (F O C G : ByteArray) (w : World) (sO : O.size ≤ 19) (sC : C.size ≤ 6) (e0 : (0 : Int) < o) (hHV : ∀ W, Calls Tryd.prog 51 #[.agg #[.int .i64 d, .int .i64 l, .int .i64 f, .int .i64 s, .int .i64 o, .int .i64 n, .int .i64 x, .int .i64 c, .int .i64 k, .int .i64 a, .int .i64 t, .int .i64 c', .int .i64 k', .int .i64 a', .int .i64 t']] W fun e w' => e = .returned (.bool true) ∧ Below W.heap.size W w') (hHF : ∀ W, Calls Tryd.prog 84 #[.agg #[.int .i64 d, .int .i64 l, .int .i64 f, .int .i64 s]] W fun e w' => e = .returned (.string F) ∧ Below W.heap.size W w') (hHO : ∀ W, Calls Tryd.prog 65 #[.int .i64 o, .int .i64 n] W fun e w' => e = .returned (.string O) ∧ Below W.heap.size W w') (hHX : ∀ W, Calls Tryd.prog 66 #[.int .i64 x] W fun e w' => e = .returned (.string C) ∧ Below W.heap.size W w') (hHN : ∀ W, Calls Tryd.prog 85 #[.agg #[.int .i64 c, .int .i64 k, .int .i64 a, .int .i64 t]] W fun e w' => e = .returned (.bool false) ∧ Below W.heap.size W w') (hHG : ∀ W, Calls Tryd.prog 86 #[.agg #[.int .i64 c, .int .i64 k, .int .i64 a, .int .i64 t]] W fun e w' => e = .returned (.string G) ∧ Below W.heap.size W w') (hHM : ∀ W, Calls Tryd.prog 85 #[.agg #[.int .i64 c', .int .i64 k', .int .i64 a', .int .i64 t']] W fun e w' => e = .returned (.bool true) ∧ Below W.heap.size W w') :
    Calls Tryd.prog 30 #[.agg #[.int .i64 d, .int .i64 l, .int .i64 f, .int .i64 s, .int .i64 o, .int .i64 n, .int .i64 x, .int .i64 c, .int .i64 k, .int .i64 a, .int .i64 t, .int .i64 c', .int .i64 k', .int .i64 a', .int .i64 t']] w (AnsT w [F, O ++ ⟨#[32]⟩ ++ C, G] true) := by
  obtain ⟨i0, hi, hz0, hz1, hz2⟩ := info_parts infoS
  have n0 : ¬ 9223372036854775807 < O.size + 1 := by omega
  have n1 : ¬ 9223372036854775807 < O.size + 1 + C.size := by omega
  have HV := Lib.hid hHV
  have HF := Lib.hid hHF
  have HO := Lib.hid hHO
  have HX := Lib.hid hHX
  have HN := Lib.hid hHN
  have HG := Lib.hid hHG
  have HM := Lib.hid hHM
  clear hHV hHF hHO hHX hHN hHG hHM
  have K0 := Lib.hid (AK.new w [.int .i64 d, .int .i64 l, .int .i64 f, .int .i64 s, .int .i64 o, .int .i64 n, .int .i64 x, .int .i64 c, .int .i64 k, .int .i64 a, .int .i64 t, .int .i64 c', .int .i64 k', .int .i64 a', .int .i64 t'])
  obtain ⟨x0, x1, x2, x3, x4, x5, x6, x7, x8, x9, x10, x11, x12, x13, x14, xf⟩ := K0.out.1.fifteen
  go_enter Tryd.func30, Tryd.ntmps30
  go_wp2_with fail
  refine (HV.out _).mono ?_
  rintro e w1 ⟨rfl, g1⟩
  clear x0 x1 x2 x3 x4 x5 x6 x7 x8 x9 x10 x11 x12 x13 x14 xf
  have K1 := Lib.hid (K0.out.below g1)
  clear g1 K0
  obtain ⟨x0, x1, x2, x3, x4, x5, x6, x7, x8, x9, x10, x11, x12, x13, x14, xf⟩ := K1.out.1.fifteen
  go_wp2_with fail
  refine (HF.out _).mono ?_
  rintro e w2 ⟨rfl, g1⟩
  clear x0 x1 x2 x3 x4 x5 x6 x7 x8 x9 x10 x11 x12 x13 x14 xf
  have K2 := Lib.hid (K1.out.below g1)
  clear g1 K1
  obtain ⟨x0, x1, x2, x3, x4, x5, x6, x7, x8, x9, x10, x11, x12, x13, x14, xf⟩ := K2.out.1.fifteen
  go_upto_region 4 with fail
  clear x0 x1 x2 x3 x4 x5 x6 x7 x8 x9 x10 x11 x12 x13 x14 xf
  have K3 := Lib.hid (KR.first K2.out F)
  clear K2
  generalize w2.alloc (.cells #[.string F] 9 (0, 0)) = w3 at *
  generalize Value.slice (some ⟨w2.heap.size, 0, none⟩) 1 1 = v3 at *
  obtain ⟨x0, x1, x2, x3, x4, x5, x6, x7, x8, x9, x10, x11, x12, x13, x14, xf⟩ := K3.out.1.1.fifteen
  go_upto_region 5 with fail
  clear x0 x1 x2 x3 x4 x5 x6 x7 x8 x9 x10 x11 x12 x13 x14 xf
  have q_ : ∀ W, AK w [.int .i64 d, .int .i64 l, .int .i64 f, .int .i64 s, .int .i64 o, .int .i64 n, .int .i64 x, .int .i64 c, .int .i64 k, .int .i64 a, .int .i64 t, .int .i64 c', .int .i64 k', .int .i64 a', .int .i64 t'] W → (W.cell? ⟨w.heap.size, 4, none⟩ = some (.int .i64 o) ∧ W.cell? ⟨w.heap.size, 5, none⟩ = some (.int .i64 n) ∧ W.cell? ⟨w.heap.size, 6, none⟩ = some (.int .i64 x)) := fun W h => ⟨h.1.at 4, h.1.at 5, h.1.at 6⟩
  have KD := Lib.hid K3.out.drew
  clear K3
  have hS0 := q_ _ KD.out.1
  refine wp_region_noPanic ?_
  refine wp_region_held_drew (S := fun w' => w'.cell? ⟨w.heap.size, 4, none⟩ = some (.int .i64 o) ∧ w'.cell? ⟨w.heap.size, 5, none⟩ = some (.int .i64 n) ∧ w'.cell? ⟨w.heap.size, 6, none⟩ = some (.int .i64 x)) (by kernel_rfl) hS0 (fun hHeld => ?_)
  clear hS0
  generalize w3.drew = Wd at *
  refine wpAnyH_take (i := 0) (oi := { dst := some 16, op := _, type := _, pos := _, after := _, guard := none }) (v := ?_) rfl (by kernel_rfl) (by kernel_rfl) (by kernel_rfl) (fun _ _ _ h => h) (Or.inl ⟨by rfl, ?_⟩) hHeld ?_
  rotate_left
  · (intro w hSw; clear hSw; go_simp; first | done | with_reducible rfl)
  set_option linter.unusedSimpArgs false in try simp only [Act.put, List.setIfInBounds_toArray, List.set_cons_zero, List.set_cons_succ]
  refine wpAnyH_take (i := 1) (oi := { dst := some 17, op := _, type := _, pos := _, after := _, guard := none }) (v := ?_) rfl (by kernel_rfl) (by kernel_rfl) (by kernel_rfl) (fun _ _ _ h => h) (Or.inl ⟨by rfl, ?_⟩) hHeld ?_
  rotate_left
  · (intro w hSw; clear hSw; go_simp; first | done | with_reducible rfl)
  set_option linter.unusedSimpArgs false in try simp only [Act.put, List.setIfInBounds_toArray, List.set_cons_zero, List.set_cons_succ]
  refine wpAnyH_take (i := 2) (oi := { dst := some 18, op := _, type := _, pos := _, after := _, guard := none }) (v := ?_) rfl (by kernel_rfl) (by kernel_rfl) (by kernel_rfl) (fun _ _ _ h => h) (Or.inl ⟨by rfl, ?_⟩) hHeld ?_
  rotate_left
  · (intro w hSw; obtain ⟨y1, y2, y3⟩ := hSw; go_simp; first | done | with_reducible rfl)
  set_option linter.unusedSimpArgs false in try simp only [Act.put, List.setIfInBounds_toArray, List.set_cons_zero, List.set_cons_succ]
  refine wpAnyH_take (i := 3) (oi := { dst := some 19, op := _, type := _, pos := _, after := _, guard := none }) (v := ?_) rfl (by kernel_rfl) (by kernel_rfl) (by kernel_rfl) (fun _ _ _ h => h) (Or.inl ⟨by rfl, ?_⟩) hHeld ?_
  rotate_left
  · (intro w hSw; clear hSw; go_simp; first | done | with_reducible rfl)
  set_option linter.unusedSimpArgs false in try simp only [Act.put, List.setIfInBounds_toArray, List.set_cons_zero, List.set_cons_succ]
  refine wpAnyH_take (i := 4) (oi := { dst := some 20, op := _, type := _, pos := _, after := _, guard := none }) (v := ?_) rfl (by kernel_rfl) (by kernel_rfl) (by kernel_rfl) (fun _ _ _ h => h) (Or.inl ⟨by rfl, ?_⟩) hHeld ?_
  rotate_left
  · (intro w hSw; obtain ⟨y1, y2, y3⟩ := hSw; go_simp; first | done | with_reducible rfl)
  set_option linter.unusedSimpArgs false in try simp only [Act.put, List.setIfInBounds_toArray, List.set_cons_zero, List.set_cons_succ]
  refine wpAnyH_take (i := 7) (oi := { dst := some 23, op := _, type := _, pos := _, after := _, guard := none }) (v := ?_) rfl (by kernel_rfl) (by kernel_rfl) (by kernel_rfl) (fun _ _ _ h => h) (Or.inl ⟨by rfl, ?_⟩) hHeld ?_
  rotate_left
  · (intro w hSw; clear hSw; go_simp; first | done | with_reducible rfl)
  set_option linter.unusedSimpArgs false in try simp only [Act.put, List.setIfInBounds_toArray, List.set_cons_zero, List.set_cons_succ]
  refine wpAnyH_take (i := 8) (oi := { dst := some 24, op := _, type := _, pos := _, after := _, guard := none }) (v := ?_) rfl (by kernel_rfl) (by kernel_rfl) (by kernel_rfl) (fun _ _ _ h => h) (Or.inl ⟨by rfl, ?_⟩) hHeld ?_
  rotate_left
  · (intro w hSw; obtain ⟨y1, y2, y3⟩ := hSw; go_simp; first | done | with_reducible rfl)
  set_option linter.unusedSimpArgs false in try simp only [Act.put, List.setIfInBounds_toArray, List.set_cons_zero, List.set_cons_succ]
  refine wpAnyH_ready (rs := [5]) (by kernel_rfl) (by simp) ?_
  refine AllReadyH.cons rfl (fun K hK => ?_) ?_
  rotate_left
  · exact AllReadyH.nil
  go_simp
  refine (HO.out _).mono ?_
  rintro e V1 ⟨rfl, g1⟩
  have KE := Lib.hid (KD.out.below g1)
  clear g1 KD
  have hS := q_ _ KE.out.1
  go_wp2_with fail
  refine hK.out _ _ hS (fun hHeld => ?_)
  clear hK K hS
  set_option linter.unusedSimpArgs false in try simp only [Act.put, List.setIfInBounds_toArray, List.set_cons_zero, List.set_cons_succ]
  refine wpAnyH_take (i := 6) (oi := { dst := some 22, op := _, type := _, pos := _, after := _, guard := none }) (v := ?_) rfl (by kernel_rfl) (by kernel_rfl) (by kernel_rfl) (fun _ _ _ h => h) (Or.inl ⟨by rfl, ?_⟩) hHeld ?_
  rotate_left
  · (intro w hSw; clear hSw; go_simp; first | done | with_reducible rfl)
  set_option linter.unusedSimpArgs false in try simp only [Act.put, List.setIfInBounds_toArray, List.set_cons_zero, List.set_cons_succ]
  refine wpAnyH_ready (rs := [9]) (by kernel_rfl) (by simp) ?_
  refine AllReadyH.cons rfl (fun K hK => ?_) ?_
  rotate_left
  · exact AllReadyH.nil
  go_simp
  refine (HX.out _).mono ?_
  rintro e V2 ⟨rfl, g1⟩
  have KF := Lib.hid (KE.out.below g1)
  clear g1 KE
  have hS := q_ _ KF.out.1
  go_wp2_with fail
  refine hK.out _ _ hS (fun hHeld => ?_)
  clear hK K hS
  set_option linter.unusedSimpArgs false in try simp only [Act.put, List.setIfInBounds_toArray, List.set_cons_zero, List.set_cons_succ]
  refine wpAnyH_take (i := 10) (oi := { dst := some 26, op := _, type := _, pos := _, after := _, guard := none }) (v := ?_) rfl (by kernel_rfl) (by kernel_rfl) (by kernel_rfl) (fun _ _ _ h => h) (Or.inl ⟨by rfl, ?_⟩) hHeld ?_
  rotate_left
  · (intro w hSw; clear hSw; go_simp; first | done | with_reducible rfl)
  set_option linter.unusedSimpArgs false in try simp only [Act.put, List.setIfInBounds_toArray, List.set_cons_zero, List.set_cons_succ]
  refine wpAnyH_ready (rs := [11]) (by kernel_rfl) (by simp) ?_
  refine AllReadyH.cons rfl (fun K hK => ?_) ?_
  rotate_left
  · exact AllReadyH.nil
  go_simp
  have hS := q_ _ (show AK w [.int .i64 d, .int .i64 l, .int .i64 f, .int .i64 s, .int .i64 o, .int .i64 n, .int .i64 x, .int .i64 c, .int .i64 k, .int .i64 a, .int .i64 t, .int .i64 c', .int .i64 k', .int .i64 a', .int .i64 t'] (V2.alloc (.cells #[.string (O ++ ⟨#[32]⟩ ++ C)] 9 (0, 0))) from ⟨KF.out.1.1.alloc _, KF.out.1.2.alloc KF.out.1.2.size _⟩)
  refine hK.out _ _ hS (fun hHeld => ?_)
  clear hK K hS
  set_option linter.unusedSimpArgs false in try simp only [Act.put, List.setIfInBounds_toArray, List.set_cons_zero, List.set_cons_succ]
  refine wpAnyH_ready (rs := [12]) (by kernel_rfl) (by simp) ?_
  refine AllReadyH.cons rfl (fun K hK => ?_) ?_
  rotate_left
  · exact AllReadyH.nil
  refine step_append_lies (o := { dst := some 28, op := _, type := _, pos := _, after := _, guard := none }) _ rfl (.tmp 16) (.tmp 27) 56 rfl (w.heap.size + 1) 9 i0 (.string ByteArray.empty) 1 16 Tryd.underlying56 hi hz0 hz1 hz2 rfl (by decide) v3 _ _ rfl (KF.out.2.alloc _) ⟨V2.heap.size, 0, none⟩ 1 1 [.string (O ++ ⟨#[32]⟩ ++ C)] rfl rfl (cell_one_new _ _ _) (fun x hx => by simp at hx; subst hx; rfl) (by decide) (by unfold maxLen; simp) (by simp) (by have := KF.out.lt; simp; omega) _ rfl ?_
  intro g6 cap6 w6 ho6 hg6 _ _
  have K6 := Lib.hid (KF.out.app ho6 hg6)
  have hS := q_ _ K6.out.1
  refine hK.out _ _ hS (fun hHeld => ?_)
  clear hK K hS ho6 hg6 KF
  set_option linter.unusedSimpArgs false in try simp only [Act.put, List.setIfInBounds_toArray, List.set_cons_zero, List.set_cons_succ]
  refine wpAnyH_take (i := 13) (oi := { dst := some 4, op := _, type := _, pos := _, after := _, guard := none }) (v := ?_) rfl (by kernel_rfl) (by kernel_rfl) (by kernel_rfl) (fun _ _ _ h => h) (Or.inl ⟨by rfl, ?_⟩) hHeld ?_
  rotate_left
  · (intro w hSw; clear hSw; go_simp; first | done | with_reducible rfl)
  set_option linter.unusedSimpArgs false in try simp only [Act.put, List.setIfInBounds_toArray, List.set_cons_zero, List.set_cons_succ]
  refine wpAnyH_done (by kernel_rfl) ?_ _
  refine NoPanic.normal ?_
  clear hHeld q_
  generalize Value.slice (some ⟨g6, 0, none⟩) ([F].length + 1) cap6 = v6 at *
  obtain ⟨x0, x1, x2, x3, x4, x5, x6, x7, x8, x9, x10, x11, x12, x13, x14, xf⟩ := K6.out.1.1.fifteen
  go_wp2_with fail
  refine (HN.out _).mono ?_
  rintro e w7 ⟨rfl, g1⟩
  clear x0 x1 x2 x3 x4 x5 x6 x7 x8 x9 x10 x11 x12 x13 x14 xf
  have K7 := Lib.hid (K6.out.below g1)
  clear g1 K6
  obtain ⟨x0, x1, x2, x3, x4, x5, x6, x7, x8, x9, x10, x11, x12, x13, x14, xf⟩ := K7.out.1.1.fifteen
  go_wp2_with fail
  refine (HG.out _).mono ?_
  rintro e w8 ⟨rfl, g1⟩
  clear x0 x1 x2 x3 x4 x5 x6 x7 x8 x9 x10 x11 x12 x13 x14 xf
  have K8 := Lib.hid (K7.out.below g1)
  clear g1 K7
  obtain ⟨x0, x1, x2, x3, x4, x5, x6, x7, x8, x9, x10, x11, x12, x13, x14, xf⟩ := K8.out.1.1.fifteen
  go_upto_region 8 with (at_builtin; refine wpList_append_own _ rfl _ _ 56 rfl (w.heap.size + 1) 9 i0 (.string ByteArray.empty) 1 16 Tryd.underlying56 hi hz0 hz1 hz2 rfl (by decide) _ _ _ rfl (K8.out.2.alloc _) ⟨w8.heap.size, 0, none⟩ 1 1 [.string G] rfl rfl (cell_one_new _ _ _) (fun x hx => by simp at hx; subst hx; rfl) (by unfold maxLen; simp) (by simp) (by have := K8.out.lt; simp; omega) ?_; intro v9 w9 hown hgrow hnil)
  clear x0 x1 x2 x3 x4 x5 x6 x7 x8 x9 x10 x11 x12 x13 x14 xf
  have K9 := Lib.hid (K8.out.app hown hgrow)
  clear hown hgrow hnil K8
  obtain ⟨x0, x1, x2, x3, x4, x5, x6, x7, x8, x9, x10, x11, x12, x13, x14, xf⟩ := K9.out.1.1.fifteen
  go_wp2_with fail
  refine (HM.out _).mono ?_
  rintro e w10 ⟨rfl, g1⟩
  clear x0 x1 x2 x3 x4 x5 x6 x7 x8 x9 x10 x11 x12 x13 x14 xf
  have K10 := Lib.hid (K9.out.below g1)
  clear g1 K9
  obtain ⟨x0, x1, x2, x3, x4, x5, x6, x7, x8, x9, x10, x11, x12, x13, x14, xf⟩ := K10.out.1.1.fifteen
  go_wp2_with fail
  go_ret2
  exact K10.out.ans (by simp)
set_option maxRecDepth 100000 in
set_option maxHeartbeats 8000000 in
theorem layers_100 (d l f s o n x c k a t c' k' a' t' : Int) (F O C G H : ByteArray) (w : World) (sO : O.size ≤ 19) (sC : C.size ≤ 6) (e0 : (0 : Int) < o) (hHV : ∀ W, Calls Tryd.prog 51 #[.agg #[.int .i64 d, .int .i64 l, .int .i64 f, .int .i64 s, .int .i64 o, .int .i64 n, .int .i64 x, .int .i64 c, .int .i64 k, .int .i64 a, .int .i64 t, .int .i64 c', .int .i64 k', .int .i64 a', .int .i64 t']] W fun e w' => e = .returned (.bool true) ∧ Below W.heap.size W w') (hHF : ∀ W, Calls Tryd.prog 84 #[.agg #[.int .i64 d, .int .i64 l, .int .i64 f, .int .i64 s]] W fun e w' => e = .returned (.string F) ∧ Below W.heap.size W w') (hHO : ∀ W, Calls Tryd.prog 65 #[.int .i64 o, .int .i64 n] W fun e w' => e = .returned (.string O) ∧ Below W.heap.size W w') (hHX : ∀ W, Calls Tryd.prog 66 #[.int .i64 x] W fun e w' => e = .returned (.string C) ∧ Below W.heap.size W w') (hHN : ∀ W, Calls Tryd.prog 85 #[.agg #[.int .i64 c, .int .i64 k, .int .i64 a, .int .i64 t]] W fun e w' => e = .returned (.bool false) ∧ Below W.heap.size W w') (hHG : ∀ W, Calls Tryd.prog 86 #[.agg #[.int .i64 c, .int .i64 k, .int .i64 a, .int .i64 t]] W fun e w' => e = .returned (.string G) ∧ Below W.heap.size W w') (hHM : ∀ W, Calls Tryd.prog 85 #[.agg #[.int .i64 c', .int .i64 k', .int .i64 a', .int .i64 t']] W fun e w' => e = .returned (.bool false) ∧ Below W.heap.size W w') (hHH : ∀ W, Calls Tryd.prog 86 #[.agg #[.int .i64 c', .int .i64 k', .int .i64 a', .int .i64 t']] W fun e w' => e = .returned (.string H) ∧ Below W.heap.size W w') :
    Calls Tryd.prog 30 #[.agg #[.int .i64 d, .int .i64 l, .int .i64 f, .int .i64 s, .int .i64 o, .int .i64 n, .int .i64 x, .int .i64 c, .int .i64 k, .int .i64 a, .int .i64 t, .int .i64 c', .int .i64 k', .int .i64 a', .int .i64 t']] w (AnsT w [F, O ++ ⟨#[32]⟩ ++ C, G, H] true) := by
  obtain ⟨i0, hi, hz0, hz1, hz2⟩ := info_parts infoS
  have n0 : ¬ 9223372036854775807 < O.size + 1 := by omega
  have n1 : ¬ 9223372036854775807 < O.size + 1 + C.size := by omega
  have HV := Lib.hid hHV
  have HF := Lib.hid hHF
  have HO := Lib.hid hHO
  have HX := Lib.hid hHX
  have HN := Lib.hid hHN
  have HG := Lib.hid hHG
  have HM := Lib.hid hHM
  have HH := Lib.hid hHH
  clear hHV hHF hHO hHX hHN hHG hHM hHH
  have K0 := Lib.hid (AK.new w [.int .i64 d, .int .i64 l, .int .i64 f, .int .i64 s, .int .i64 o, .int .i64 n, .int .i64 x, .int .i64 c, .int .i64 k, .int .i64 a, .int .i64 t, .int .i64 c', .int .i64 k', .int .i64 a', .int .i64 t'])
  obtain ⟨x0, x1, x2, x3, x4, x5, x6, x7, x8, x9, x10, x11, x12, x13, x14, xf⟩ := K0.out.1.fifteen
  go_enter Tryd.func30, Tryd.ntmps30
  go_wp2_with fail
  refine (HV.out _).mono ?_
  rintro e w1 ⟨rfl, g1⟩
  clear x0 x1 x2 x3 x4 x5 x6 x7 x8 x9 x10 x11 x12 x13 x14 xf
  have K1 := Lib.hid (K0.out.below g1)
  clear g1 K0
  obtain ⟨x0, x1, x2, x3, x4, x5, x6, x7, x8, x9, x10, x11, x12, x13, x14, xf⟩ := K1.out.1.fifteen
  go_wp2_with fail
  refine (HF.out _).mono ?_
  rintro e w2 ⟨rfl, g1⟩
  clear x0 x1 x2 x3 x4 x5 x6 x7 x8 x9 x10 x11 x12 x13 x14 xf
  have K2 := Lib.hid (K1.out.below g1)
  clear g1 K1
  obtain ⟨x0, x1, x2, x3, x4, x5, x6, x7, x8, x9, x10, x11, x12, x13, x14, xf⟩ := K2.out.1.fifteen
  go_upto_region 4 with fail
  clear x0 x1 x2 x3 x4 x5 x6 x7 x8 x9 x10 x11 x12 x13 x14 xf
  have K3 := Lib.hid (KR.first K2.out F)
  clear K2
  generalize w2.alloc (.cells #[.string F] 9 (0, 0)) = w3 at *
  generalize Value.slice (some ⟨w2.heap.size, 0, none⟩) 1 1 = v3 at *
  obtain ⟨x0, x1, x2, x3, x4, x5, x6, x7, x8, x9, x10, x11, x12, x13, x14, xf⟩ := K3.out.1.1.fifteen
  go_upto_region 5 with fail
  clear x0 x1 x2 x3 x4 x5 x6 x7 x8 x9 x10 x11 x12 x13 x14 xf
  have q_ : ∀ W, AK w [.int .i64 d, .int .i64 l, .int .i64 f, .int .i64 s, .int .i64 o, .int .i64 n, .int .i64 x, .int .i64 c, .int .i64 k, .int .i64 a, .int .i64 t, .int .i64 c', .int .i64 k', .int .i64 a', .int .i64 t'] W → (W.cell? ⟨w.heap.size, 4, none⟩ = some (.int .i64 o) ∧ W.cell? ⟨w.heap.size, 5, none⟩ = some (.int .i64 n) ∧ W.cell? ⟨w.heap.size, 6, none⟩ = some (.int .i64 x)) := fun W h => ⟨h.1.at 4, h.1.at 5, h.1.at 6⟩
  have KD := Lib.hid K3.out.drew
  clear K3
  have hS0 := q_ _ KD.out.1
  refine wp_region_noPanic ?_
  refine wp_region_held_drew (S := fun w' => w'.cell? ⟨w.heap.size, 4, none⟩ = some (.int .i64 o) ∧ w'.cell? ⟨w.heap.size, 5, none⟩ = some (.int .i64 n) ∧ w'.cell? ⟨w.heap.size, 6, none⟩ = some (.int .i64 x)) (by kernel_rfl) hS0 (fun hHeld => ?_)
  clear hS0
  generalize w3.drew = Wd at *
  refine wpAnyH_take (i := 0) (oi := { dst := some 16, op := _, type := _, pos := _, after := _, guard := none }) (v := ?_) rfl (by kernel_rfl) (by kernel_rfl) (by kernel_rfl) (fun _ _ _ h => h) (Or.inl ⟨by rfl, ?_⟩) hHeld ?_
  rotate_left
  · (intro w hSw; clear hSw; go_simp; first | done | with_reducible rfl)
  set_option linter.unusedSimpArgs false in try simp only [Act.put, List.setIfInBounds_toArray, List.set_cons_zero, List.set_cons_succ]
  refine wpAnyH_take (i := 1) (oi := { dst := some 17, op := _, type := _, pos := _, after := _, guard := none }) (v := ?_) rfl (by kernel_rfl) (by kernel_rfl) (by kernel_rfl) (fun _ _ _ h => h) (Or.inl ⟨by rfl, ?_⟩) hHeld ?_
  rotate_left
  · (intro w hSw; clear hSw; go_simp; first | done | with_reducible rfl)
  set_option linter.unusedSimpArgs false in try simp only [Act.put, List.setIfInBounds_toArray, List.set_cons_zero, List.set_cons_succ]
  refine wpAnyH_take (i := 2) (oi := { dst := some 18, op := _, type := _, pos := _, after := _, guard := none }) (v := ?_) rfl (by kernel_rfl) (by kernel_rfl) (by kernel_rfl) (fun _ _ _ h => h) (Or.inl ⟨by rfl, ?_⟩) hHeld ?_
  rotate_left
  · (intro w hSw; obtain ⟨y1, y2, y3⟩ := hSw; go_simp; first | done | with_reducible rfl)
  set_option linter.unusedSimpArgs false in try simp only [Act.put, List.setIfInBounds_toArray, List.set_cons_zero, List.set_cons_succ]
  refine wpAnyH_take (i := 3) (oi := { dst := some 19, op := _, type := _, pos := _, after := _, guard := none }) (v := ?_) rfl (by kernel_rfl) (by kernel_rfl) (by kernel_rfl) (fun _ _ _ h => h) (Or.inl ⟨by rfl, ?_⟩) hHeld ?_
  rotate_left
  · (intro w hSw; clear hSw; go_simp; first | done | with_reducible rfl)
  set_option linter.unusedSimpArgs false in try simp only [Act.put, List.setIfInBounds_toArray, List.set_cons_zero, List.set_cons_succ]
  refine wpAnyH_take (i := 4) (oi := { dst := some 20, op := _, type := _, pos := _, after := _, guard := none }) (v := ?_) rfl (by kernel_rfl) (by kernel_rfl) (by kernel_rfl) (fun _ _ _ h => h) (Or.inl ⟨by rfl, ?_⟩) hHeld ?_
  rotate_left
  · (intro w hSw; obtain ⟨y1, y2, y3⟩ := hSw; go_simp; first | done | with_reducible rfl)
  set_option linter.unusedSimpArgs false in try simp only [Act.put, List.setIfInBounds_toArray, List.set_cons_zero, List.set_cons_succ]
  refine wpAnyH_take (i := 7) (oi := { dst := some 23, op := _, type := _, pos := _, after := _, guard := none }) (v := ?_) rfl (by kernel_rfl) (by kernel_rfl) (by kernel_rfl) (fun _ _ _ h => h) (Or.inl ⟨by rfl, ?_⟩) hHeld ?_
  rotate_left
  · (intro w hSw; clear hSw; go_simp; first | done | with_reducible rfl)
  set_option linter.unusedSimpArgs false in try simp only [Act.put, List.setIfInBounds_toArray, List.set_cons_zero, List.set_cons_succ]
  refine wpAnyH_take (i := 8) (oi := { dst := some 24, op := _, type := _, pos := _, after := _, guard := none }) (v := ?_) rfl (by kernel_rfl) (by kernel_rfl) (by kernel_rfl) (fun _ _ _ h => h) (Or.inl ⟨by rfl, ?_⟩) hHeld ?_
  rotate_left
  · (intro w hSw; obtain ⟨y1, y2, y3⟩ := hSw; go_simp; first | done | with_reducible rfl)
  set_option linter.unusedSimpArgs false in try simp only [Act.put, List.setIfInBounds_toArray, List.set_cons_zero, List.set_cons_succ]
  refine wpAnyH_ready (rs := [5]) (by kernel_rfl) (by simp) ?_
  refine AllReadyH.cons rfl (fun K hK => ?_) ?_
  rotate_left
  · exact AllReadyH.nil
  go_simp
  refine (HO.out _).mono ?_
  rintro e V1 ⟨rfl, g1⟩
  have KE := Lib.hid (KD.out.below g1)
  clear g1 KD
  have hS := q_ _ KE.out.1
  go_wp2_with fail
  refine hK.out _ _ hS (fun hHeld => ?_)
  clear hK K hS
  set_option linter.unusedSimpArgs false in try simp only [Act.put, List.setIfInBounds_toArray, List.set_cons_zero, List.set_cons_succ]
  refine wpAnyH_take (i := 6) (oi := { dst := some 22, op := _, type := _, pos := _, after := _, guard := none }) (v := ?_) rfl (by kernel_rfl) (by kernel_rfl) (by kernel_rfl) (fun _ _ _ h => h) (Or.inl ⟨by rfl, ?_⟩) hHeld ?_
  rotate_left
  · (intro w hSw; clear hSw; go_simp; first | done | with_reducible rfl)
  set_option linter.unusedSimpArgs false in try simp only [Act.put, List.setIfInBounds_toArray, List.set_cons_zero, List.set_cons_succ]
  refine wpAnyH_ready (rs := [9]) (by kernel_rfl) (by simp) ?_
  refine AllReadyH.cons rfl (fun K hK => ?_) ?_
  rotate_left
  · exact AllReadyH.nil
  go_simp
  refine (HX.out _).mono ?_
  rintro e V2 ⟨rfl, g1⟩
  have KF := Lib.hid (KE.out.below g1)
  clear g1 KE
  have hS := q_ _ KF.out.1
  go_wp2_with fail
  refine hK.out _ _ hS (fun hHeld => ?_)
  clear hK K hS
  set_option linter.unusedSimpArgs false in try simp only [Act.put, List.setIfInBounds_toArray, List.set_cons_zero, List.set_cons_succ]
  refine wpAnyH_take (i := 10) (oi := { dst := some 26, op := _, type := _, pos := _, after := _, guard := none }) (v := ?_) rfl (by kernel_rfl) (by kernel_rfl) (by kernel_rfl) (fun _ _ _ h => h) (Or.inl ⟨by rfl, ?_⟩) hHeld ?_
  rotate_left
  · (intro w hSw; clear hSw; go_simp; first | done | with_reducible rfl)
  set_option linter.unusedSimpArgs false in try simp only [Act.put, List.setIfInBounds_toArray, List.set_cons_zero, List.set_cons_succ]
  refine wpAnyH_ready (rs := [11]) (by kernel_rfl) (by simp) ?_
  refine AllReadyH.cons rfl (fun K hK => ?_) ?_
  rotate_left
  · exact AllReadyH.nil
  go_simp
  have hS := q_ _ (show AK w [.int .i64 d, .int .i64 l, .int .i64 f, .int .i64 s, .int .i64 o, .int .i64 n, .int .i64 x, .int .i64 c, .int .i64 k, .int .i64 a, .int .i64 t, .int .i64 c', .int .i64 k', .int .i64 a', .int .i64 t'] (V2.alloc (.cells #[.string (O ++ ⟨#[32]⟩ ++ C)] 9 (0, 0))) from ⟨KF.out.1.1.alloc _, KF.out.1.2.alloc KF.out.1.2.size _⟩)
  refine hK.out _ _ hS (fun hHeld => ?_)
  clear hK K hS
  set_option linter.unusedSimpArgs false in try simp only [Act.put, List.setIfInBounds_toArray, List.set_cons_zero, List.set_cons_succ]
  refine wpAnyH_ready (rs := [12]) (by kernel_rfl) (by simp) ?_
  refine AllReadyH.cons rfl (fun K hK => ?_) ?_
  rotate_left
  · exact AllReadyH.nil
  refine step_append_lies (o := { dst := some 28, op := _, type := _, pos := _, after := _, guard := none }) _ rfl (.tmp 16) (.tmp 27) 56 rfl (w.heap.size + 1) 9 i0 (.string ByteArray.empty) 1 16 Tryd.underlying56 hi hz0 hz1 hz2 rfl (by decide) v3 _ _ rfl (KF.out.2.alloc _) ⟨V2.heap.size, 0, none⟩ 1 1 [.string (O ++ ⟨#[32]⟩ ++ C)] rfl rfl (cell_one_new _ _ _) (fun x hx => by simp at hx; subst hx; rfl) (by decide) (by unfold maxLen; simp) (by simp) (by have := KF.out.lt; simp; omega) _ rfl ?_
  intro g6 cap6 w6 ho6 hg6 _ _
  have K6 := Lib.hid (KF.out.app ho6 hg6)
  have hS := q_ _ K6.out.1
  refine hK.out _ _ hS (fun hHeld => ?_)
  clear hK K hS ho6 hg6 KF
  set_option linter.unusedSimpArgs false in try simp only [Act.put, List.setIfInBounds_toArray, List.set_cons_zero, List.set_cons_succ]
  refine wpAnyH_take (i := 13) (oi := { dst := some 4, op := _, type := _, pos := _, after := _, guard := none }) (v := ?_) rfl (by kernel_rfl) (by kernel_rfl) (by kernel_rfl) (fun _ _ _ h => h) (Or.inl ⟨by rfl, ?_⟩) hHeld ?_
  rotate_left
  · (intro w hSw; clear hSw; go_simp; first | done | with_reducible rfl)
  set_option linter.unusedSimpArgs false in try simp only [Act.put, List.setIfInBounds_toArray, List.set_cons_zero, List.set_cons_succ]
  refine wpAnyH_done (by kernel_rfl) ?_ _
  refine NoPanic.normal ?_
  clear hHeld q_
  generalize Value.slice (some ⟨g6, 0, none⟩) ([F].length + 1) cap6 = v6 at *
  obtain ⟨x0, x1, x2, x3, x4, x5, x6, x7, x8, x9, x10, x11, x12, x13, x14, xf⟩ := K6.out.1.1.fifteen
  go_wp2_with fail
  refine (HN.out _).mono ?_
  rintro e w7 ⟨rfl, g1⟩
  clear x0 x1 x2 x3 x4 x5 x6 x7 x8 x9 x10 x11 x12 x13 x14 xf
  have K7 := Lib.hid (K6.out.below g1)
  clear g1 K6
  obtain ⟨x0, x1, x2, x3, x4, x5, x6, x7, x8, x9, x10, x11, x12, x13, x14, xf⟩ := K7.out.1.1.fifteen
  go_wp2_with fail
  refine (HG.out _).mono ?_
  rintro e w8 ⟨rfl, g1⟩
  clear x0 x1 x2 x3 x4 x5 x6 x7 x8 x9 x10 x11 x12 x13 x14 xf
  have K8 := Lib.hid (K7.out.below g1)
  clear g1 K7
  obtain ⟨x0, x1, x2, x3, x4, x5, x6, x7, x8, x9, x10, x11, x12, x13, x14, xf⟩ := K8.out.1.1.fifteen
  go_upto_region 8 with (at_builtin; refine wpList_append_own _ rfl _ _ 56 rfl (w.heap.size + 1) 9 i0 (.string ByteArray.empty) 1 16 Tryd.underlying56 hi hz0 hz1 hz2 rfl (by decide) _ _ _ rfl (K8.out.2.alloc _) ⟨w8.heap.size, 0, none⟩ 1 1 [.string G] rfl rfl (cell_one_new _ _ _) (fun x hx => by simp at hx; subst hx; rfl) (by unfold maxLen; simp) (by simp) (by have := K8.out.lt; simp; omega) ?_; intro v9 w9 hown hgrow hnil)
  clear x0 x1 x2 x3 x4 x5 x6 x7 x8 x9 x10 x11 x12 x13 x14 xf
  have K9 := Lib.hid (K8.out.app hown hgrow)
  clear hown hgrow hnil K8
  obtain ⟨x0, x1, x2, x3, x4, x5, x6, x7, x8, x9, x10, x11, x12, x13, x14, xf⟩ := K9.out.1.1.fifteen
  go_wp2_with fail
  refine (HM.out _).mono ?_
  rintro e w10 ⟨rfl, g1⟩
  clear x0 x1 x2 x3 x4 x5 x6 x7 x8 x9 x10 x11 x12 x13 x14 xf
  have K10 := Lib.hid (K9.out.below g1)
  clear g1 K9
  obtain ⟨x0, x1, x2, x3, x4, x5, x6, x7, x8, x9, x10, x11, x12, x13, x14, xf⟩ := K10.out.1.1.fifteen
  go_wp2_with fail
  refine (HH.out _).mono ?_
  rintro e w11 ⟨rfl, g1⟩
  clear x0 x1 x2 x3 x4 x5 x6 x7 x8 x9 x10 x11 x12 x13 x14 xf
  have K11 := Lib.hid (K10.out.below g1)
  clear g1 K10
  obtain ⟨x0, x1, x2, x3, x4, x5, x6, x7, x8, x9, x10, x11, x12, x13, x14, xf⟩ := K11.out.1.1.fifteen
  go_upto_region 10 with (at_builtin; refine wpList_append_own _ rfl _ _ 56 rfl (w.heap.size + 1) 9 i0 (.string ByteArray.empty) 1 16 Tryd.underlying56 hi hz0 hz1 hz2 rfl (by decide) _ _ _ rfl (K11.out.2.alloc _) ⟨w11.heap.size, 0, none⟩ 1 1 [.string H] rfl rfl (cell_one_new _ _ _) (fun x hx => by simp at hx; subst hx; rfl) (by unfold maxLen; simp) (by simp) (by have := K11.out.lt; simp; omega) ?_; intro v12 w12 hown hgrow hnil)
  clear x0 x1 x2 x3 x4 x5 x6 x7 x8 x9 x10 x11 x12 x13 x14 xf
  have K12 := Lib.hid (K11.out.app hown hgrow)
  clear hown hgrow hnil K11
  obtain ⟨x0, x1, x2, x3, x4, x5, x6, x7, x8, x9, x10, x11, x12, x13, x14, xf⟩ := K12.out.1.1.fifteen
  go_wp2_with fail
  go_ret2
  exact K12.out.ans (by simp)
set_option linter.unusedSimpArgs false in
theorem layerTexts_yes (d l f s o n x c k a t c' k' a' t' : Int) (w : World) (h : aOkB d l f s o n x c k a t c' k' a' t' = true) :
    Calls Tryd.prog 30 #[.agg #[.int .i64 d, .int .i64 l, .int .i64 f, .int .i64 s, .int .i64 o, .int .i64 n, .int .i64 x, .int .i64 c, .int .i64 k, .int .i64 a, .int .i64 t, .int .i64 c', .int .i64 k', .int .i64 a', .int .i64 t']] w (AnsT w (textsL (layersN d l f s o n x c k a t c' k' a' t')) true) := by
  have cV := fun W => l5Good_any d l f s o n x c k a t c' k' a' t' W true h
  obtain ⟨hF, hA, hO⟩ := aOk_out h
  have cF := fun W => l3Text_valid d l f s W hF
  rcases hO with ⟨rfl, rfl, rfl, hg⟩ | ⟨ho, hn, hx, hg⟩
  · rcases hA with hA1 | ⟨hA1, hA2⟩
    · have q := layers_011 d l f s 0 0 c k a t c' k' a' t' (fN d l f s) w cV cF (fun W => l4None_any c k a t W true hg) (fun W => l4None_any c' k' a' t' W true hA1)
      unfold textsL layersN
      simp only [if_neg (show ¬ (0 : Int) < 0 by omega), hg, hA1, Bool.false_eq_true, if_true, if_false, List.map_append, List.map_cons, List.map_nil, List.append_nil, List.nil_append, List.cons_append, List.append_assoc]
      exact q
    · have q := layers_010 d l f s 0 0 c k a t c' k' a' t' (fN d l f s) (gN c' k' a' t') w cV cF (fun W => l4None_any c k a t W true hg) (fun W => l4None_any c' k' a' t' W false hA1) (fun W => l4Text_int hA2 W)
      unfold textsL layersN
      simp only [if_neg (show ¬ (0 : Int) < 0 by omega), hg, hA1, Bool.false_eq_true, if_true, if_false, List.map_append, List.map_cons, List.map_nil, List.append_nil, List.nil_append, List.cons_append, List.append_assoc]
      exact q
  · rcases hg with hg1 | ⟨hg1, hg2⟩
    · rcases hA with hA1 | ⟨hA1, hA2⟩
      · have q := layers_111 d l f s o n x c k a t c' k' a' t' (fN d l f s) (oheadN o.toNat n.toNat) (wordN (x - 1).toNat) w (oheadN_size (by omega) (by omega)) (wordN_size (by omega)) (by omega) cV cF (fun W => l6Ordinary_int ho hn W) (fun W => l2Word_int hx W) (fun W => l4None_any c k a t W true hg1) (fun W => l4None_any c' k' a' t' W true hA1)
        unfold textsL layersN
        simp only [if_pos (show (0 : Int) < o by omega), hg1, hA1, Bool.false_eq_true, if_true, if_false, List.map_append, List.map_cons, List.map_nil, List.append_nil, List.nil_append, List.cons_append, List.append_assoc]
        unfold oN otextN
        exact q
      · have q := layers_110 d l f s o n x c k a t c' k' a' t' (fN d l f s) (oheadN o.toNat n.toNat) (wordN (x - 1).toNat) (gN c' k' a' t') w (oheadN_size (by omega) (by omega)) (wordN_size (by omega)) (by omega) cV cF (fun W => l6Ordinary_int ho hn W) (fun W => l2Word_int hx W) (fun W => l4None_any c k a t W true hg1) (fun W => l4None_any c' k' a' t' W false hA1) (fun W => l4Text_int hA2 W)
        unfold textsL layersN
        simp only [if_pos (show (0 : Int) < o by omega), hg1, hA1, Bool.false_eq_true, if_true, if_false, List.map_append, List.map_cons, List.map_nil, List.append_nil, List.nil_append, List.cons_append, List.append_assoc]
        unfold oN otextN
        exact q
    · rcases hA with hA1 | ⟨hA1, hA2⟩
      · have q := layers_101 d l f s o n x c k a t c' k' a' t' (fN d l f s) (oheadN o.toNat n.toNat) (wordN (x - 1).toNat) (gN c k a t) w (oheadN_size (by omega) (by omega)) (wordN_size (by omega)) (by omega) cV cF (fun W => l6Ordinary_int ho hn W) (fun W => l2Word_int hx W) (fun W => l4None_any c k a t W false hg1) (fun W => l4Text_int hg2 W) (fun W => l4None_any c' k' a' t' W true hA1)
        unfold textsL layersN
        simp only [if_pos (show (0 : Int) < o by omega), hg1, hA1, Bool.false_eq_true, if_true, if_false, List.map_append, List.map_cons, List.map_nil, List.append_nil, List.nil_append, List.cons_append, List.append_assoc]
        unfold oN otextN
        exact q
      · have q := layers_100 d l f s o n x c k a t c' k' a' t' (fN d l f s) (oheadN o.toNat n.toNat) (wordN (x - 1).toNat) (gN c k a t) (gN c' k' a' t') w (oheadN_size (by omega) (by omega)) (wordN_size (by omega)) (by omega) cV cF (fun W => l6Ordinary_int ho hn W) (fun W => l2Word_int hx W) (fun W => l4None_any c k a t W false hg1) (fun W => l4Text_int hg2 W) (fun W => l4None_any c' k' a' t' W false hA1) (fun W => l4Text_int hA2 W)
        unfold textsL layersN
        simp only [if_pos (show (0 : Int) < o by omega), hg1, hA1, Bool.false_eq_true, if_true, if_false, List.map_append, List.map_cons, List.map_nil, List.append_nil, List.nil_append, List.cons_append, List.append_assoc]
        unfold oN otextN
        exact q
set_option maxRecDepth 100000 in
set_option maxHeartbeats 4000000 in
theorem layerTexts_spec (d l f s o n x c k a t c' k' a' t' : Int) (w : World) (r : Bool) (hr : aOkB d l f s o n x c k a t c' k' a' t' = r) :
    Calls Tryd.prog 30 #[.agg #[.int .i64 d, .int .i64 l, .int .i64 f, .int .i64 s, .int .i64 o, .int .i64 n, .int .i64 x, .int .i64 c, .int .i64 k, .int .i64 a, .int .i64 t, .int .i64 c', .int .i64 k', .int .i64 a', .int .i64 t']] w (AnsT w (if r = true then textsL (layersN d l f s o n x c k a t c' k' a' t') else []) r) := by
  cases r
  · have HC := Lib.hid (fun W => l5Good_any d l f s o n x c k a t c' k' a' t' W false hr)
    have K0 := Lib.hid (AK.new w [.int .i64 d, .int .i64 l, .int .i64 f, .int .i64 s, .int .i64 o, .int .i64 n, .int .i64 x, .int .i64 c, .int .i64 k, .int .i64 a, .int .i64 t, .int .i64 c', .int .i64 k', .int .i64 a', .int .i64 t'])
    obtain ⟨x0, x1, x2, x3, x4, x5, x6, x7, x8, x9, x10, x11, x12, x13, x14, xf⟩ := K0.out.1.fifteen
    clear hr
    go_enter Tryd.func30, Tryd.ntmps30
    go_wp2_with fail
    refine (HC.out _).mono ?_
    rintro e w1 ⟨rfl, g1⟩
    clear x0 x1 x2 x3 x4 x5 x6 x7 x8 x9 x10 x11 x12 x13 x14 xf
    have K1 := Lib.hid (K0.out.below g1)
    clear g1
    go_wp2_with fail
    go_ret2
    have hb := K1.out.2
    exact ⟨_, _, rfl, by first | exact ownS_nil _ _ | exact ownS_lit w1 w.heap.size hb.size [] (by simp), by first | exact hb | exact hb.alloc hb.size _⟩
  · rw [if_pos rfl]
    exact layerTexts_yes d l f s o n x c k a t c' k' a' t' w hr
end Go.Proofs.YtgeidnnjljpdkaaDoor
namespace Go.Proofs.YtgeidnnjljpdkaaDoor
theorem textsL_len (d l f s o n x c k a t c' k' a' t' : Int) (r : Bool) : (if r = true then textsL (layersN d l f s o n x c k a t c' k' a' t') else []).length ≤ 1000 := by
  cases r
  · simp
  · rw [if_pos rfl]
    unfold textsL
    rw [List.length_map]
    have := (layers_len d l f s o n x c k a t c' k' a' t').2
    omega
end Go.Proofs.YtgeidnnjljpdkaaDoor
