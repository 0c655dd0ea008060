/- Contract: the program's AllowedAt. -/
import Derived.Test.YtmmbhglmafnfpabDoorE8Find
import Derived.Test.YtmmbhglmafnfpabDoorKA
import Derived.Test.YtmmbhglmafnfpabDoorKD
namespace Go.Proofs.YtmmbhglmafnfpabDoor
open Go.RowKit

theorem rowBelow {w w' : World} {B : Nat} {e : TypeId} {size : Nat} {v : Value} {n : Nat} {xs : List Value} (h : w.ownsRow B e size v n xs) (hb : Below w.heap.size w w') : w'.ownsRow B e size v n xs :=
  World.ownsRow.kept (row := none) h ⟨hb.os, hb.tape, hb.output, hb.size, fun i hi _ => hb.block i hi⟩ (by cases h : v.ownBlock <;> simp)
theorem rowFar {w w' : World} {B b : Nat} {e : TypeId} {size : Nat} {v : Value} {n : Nat} {xs : List Value} (h : w.ownsRow B e size v n xs) (hg : w.grownBy w' (some b)) (hb : b < B) : w'.ownsRow B e size v n xs :=
  World.ownsRow.kept h hg (by
    rcases hv : v.ownBlock with _ | q
    · exact .inl rfl
    · have := (World.ownsRow.lt h q hv).1
      exact .inr (fun e => by simp at e; omega))
/-- The tinctures from 1 to k that do not break the rule. -/
def alL (p : Int → Bool) (k : Nat) : List Int := ((List.range k).map fun i : Nat => ((i : Int) + 1)).filter fun y => !p y
theorem alL_len (p : Int → Bool) (k : Nat) : (alL p k).length ≤ k := by
  unfold alL; exact Nat.le_trans (List.length_filter_le _ _) (by simp)
theorem alL_in {p : Int → Bool} {k : Nat} (h : p ((k : Int) + 1) = false) : alL p (k + 1) = alL p k ++ [(k : Int) + 1] := by
  unfold alL; rw [List.range_succ, List.map_append, List.filter_append]; simp [h]
theorem alL_out {p : Int → Bool} {k : Nat} (h : p ((k : Int) + 1) = true) : alL p (k + 1) = alL p k := by
  unfold alL; rw [List.range_succ, List.map_append, List.filter_append]; simp [h]
theorem alL_eq {p q : Int → Bool} (k : Nat) (h : ∀ y : Int, 1 ≤ y ∧ y ≤ k → p y = q y) : alL p k = alL q k := by
  unfold alL
  refine List.filter_congr fun y hy => ?_
  obtain ⟨i, hi, rfl⟩ := List.mem_map.1 hy
  have := List.mem_range.1 hi
  rw [h _ ⟨by omega, by omega⟩]
theorem isPlace_any (y : Int) (w : World) (p : Bool) (hp : decide (1 ≤ y ∧ y ≤ 3) = p) :
    Calls Tryd.prog 36 #[.int .i64 y] w fun e w' => e = .returned (.bool p) ∧ w = w' := by
  obtain ⟨p1, e1⟩ : ∃ p, decide (1 ≤ y) = p := ⟨_, rfl⟩
  obtain ⟨p2, e2⟩ : ∃ p, decide (y ≤ 3) = p := ⟨_, rfl⟩
  have hR : (p1 && p2) = p := by rw [← hp, ← e1, ← e2]; by_cases h : 1 ≤ y <;> by_cases h' : y ≤ 3 <;> simp [h, h']
  clear hp
  subst hR
  cases p1
  all_goals
    go_enter Tryd.func36, Tryd.ntmps36
    go_wp2_with fail
    go_ret
    exact ⟨by first | rfl | simp, rfl⟩
set_option linter.unusedSimpArgs false in
set_option maxRecDepth 100000 in
set_option maxHeartbeats 8000000 in
theorem allow_bad (d l f s o n x c k a t c' k' a' t' pl : Int) (w : World) (hr : aOkB d l f s o n x c k a t c' k' a' t' = false) (hA : AttsLie w) :
    Calls Tryd.prog 8 #[.agg #[.int .i64 d, .int .i64 l, .int .i64 f, .int .i64 s, .int .i64 o, .int .i64 n, .int .i64 x, .int .i64 c, .int .i64 k, .int .i64 a, .int .i64 t, .int .i64 c', .int .i64 k', .int .i64 a', .int .i64 t'], .int .i64 pl] w (Ans w [] false) := by
  have CV := Lib.hid (fun W (hb : Below w.heap.size w W) => validArms_impl d l f s o n x c k a t c' k' a' t' W false hr (hA.below hb))
  have B0 := Lib.hid ((Below.refl _ w).alloc (Nat.le_refl _) (.cells #[.int .i64 d, .int .i64 l, .int .i64 f, .int .i64 s, .int .i64 o, .int .i64 n, .int .i64 x, .int .i64 c, .int .i64 k, .int .i64 a, .int .i64 t, .int .i64 c', .int .i64 k', .int .i64 a', .int .i64 t'] 29 (0, 0)))
  have r0 := (BoxF.new w [.int .i64 d, .int .i64 l, .int .i64 f, .int .i64 s, .int .i64 o, .int .i64 n, .int .i64 x, .int .i64 c, .int .i64 k, .int .i64 a, .int .i64 t, .int .i64 c', .int .i64 k', .int .i64 a', .int .i64 t'] 29).range
  clear hr hA
  go_enter Tryd.func8, Tryd.ntmps8
  go_wp2_with (with_reducible refine isList ?_; refine ld15 2 w.heap.size [.int .i64 d, .int .i64 l, .int .i64 f, .int .i64 s, .int .i64 o, .int .i64 n, .int .i64 x, .int .i64 c, .int .i64 k, .int .i64 a, .int .i64 t, .int .i64 c', .int .i64 k', .int .i64 a', .int .i64 t'] rfl rfl rfl rfl ?_ ?_; exact r0)
  refine (CV.out _ B0.out).mono ?_
  rintro e w1 ⟨rfl, h1⟩
  have B1 := Lib.hid (B0.out.trans (h1.mono B0.out.size))
  clear h1 B0 r0
  go_wp2_with fail
  go_ret2
  exact ⟨none, 0, rfl, ownI_nil _ _, B1.out⟩
set_option linter.unusedSimpArgs false in
set_option maxRecDepth 100000 in
set_option maxHeartbeats 8000000 in
theorem allow_place (d l f s o n x c k a t c' k' a' t' pl : Int) (w : World) (hr : aOkB d l f s o n x c k a t c' k' a' t' = true) (hp : decide (1 ≤ pl ∧ pl ≤ 3) = false) (hA : AttsLie w) :
    Calls Tryd.prog 8 #[.agg #[.int .i64 d, .int .i64 l, .int .i64 f, .int .i64 s, .int .i64 o, .int .i64 n, .int .i64 x, .int .i64 c, .int .i64 k, .int .i64 a, .int .i64 t, .int .i64 c', .int .i64 k', .int .i64 a', .int .i64 t'], .int .i64 pl] w (Ans w [] false) := by
  have CV := Lib.hid (fun W (hb : Below w.heap.size w W) => validArms_impl d l f s o n x c k a t c' k' a' t' W true hr (hA.below hb))
  have CP := Lib.hid (fun W => isPlace_any pl W false hp)
  have B0 := Lib.hid ((Below.refl _ w).alloc (Nat.le_refl _) (.cells #[.int .i64 d, .int .i64 l, .int .i64 f, .int .i64 s, .int .i64 o, .int .i64 n, .int .i64 x, .int .i64 c, .int .i64 k, .int .i64 a, .int .i64 t, .int .i64 c', .int .i64 k', .int .i64 a', .int .i64 t'] 29 (0, 0)))
  have r0 := (BoxF.new w [.int .i64 d, .int .i64 l, .int .i64 f, .int .i64 s, .int .i64 o, .int .i64 n, .int .i64 x, .int .i64 c, .int .i64 k, .int .i64 a, .int .i64 t, .int .i64 c', .int .i64 k', .int .i64 a', .int .i64 t'] 29).range
  clear hr hA hp
  go_enter Tryd.func8, Tryd.ntmps8
  go_wp2_with (with_reducible refine isList ?_; refine ld15 2 w.heap.size [.int .i64 d, .int .i64 l, .int .i64 f, .int .i64 s, .int .i64 o, .int .i64 n, .int .i64 x, .int .i64 c, .int .i64 k, .int .i64 a, .int .i64 t, .int .i64 c', .int .i64 k', .int .i64 a', .int .i64 t'] rfl rfl rfl rfl ?_ ?_; exact r0)
  refine (CV.out _ B0.out).mono ?_
  rintro e w1 ⟨rfl, h1⟩
  have B1 := Lib.hid (B0.out.trans (h1.mono B0.out.size))
  clear h1 B0 r0
  go_wp2_with fail
  refine (CP.out _).mono ?_
  rintro e w2 ⟨rfl, rfl⟩
  go_wp2_with fail
  go_ret2
  exact ⟨none, 0, rfl, ownI_nil _ _, B1.out⟩
set_option linter.unusedSimpArgs false in
set_option maxRecDepth 100000 in
set_option maxHeartbeats 8000000 in
theorem allow_none (d l f s o n x c k a t c' k' a' t' pl : Int) (T : Nat → Int) (τ : Nat → TypeId) (ν : Nat → Value) (q : Nat) (hq : q < 3) (hpl : pl = (q : Int) + 1) (h0 : T q = 0) (w : World)
    (hV : ∀ W, Below w.heap.size w W → Calls Tryd.prog 30 #[.agg #[.int .i64 d, .int .i64 l, .int .i64 f, .int .i64 s, .int .i64 o, .int .i64 n, .int .i64 x, .int .i64 c, .int .i64 k, .int .i64 a, .int .i64 t, .int .i64 c', .int .i64 k', .int .i64 a', .int .i64 t']] W fun e w' => e = .returned (.bool true) ∧ Below W.heap.size W w')
    (hU : ∀ W, Calls Tryd.prog 37 #[.agg #[.int .i64 d, .int .i64 l, .int .i64 f, .int .i64 s, .int .i64 o, .int .i64 n, .int .i64 x, .int .i64 c, .int .i64 k, .int .i64 a, .int .i64 t, .int .i64 c', .int .i64 k', .int .i64 a', .int .i64 t']] W fun e w' => e = .returned (.agg #[.int .i64 (T 0), .iface (τ 0) (ν 0), .int .i64 (T 1), .iface (τ 1) (ν 1), .int .i64 (T 2), .iface (τ 2) (ν 2)]) ∧ Below W.heap.size W w') :
    Calls Tryd.prog 8 #[.agg #[.int .i64 d, .int .i64 l, .int .i64 f, .int .i64 s, .int .i64 o, .int .i64 n, .int .i64 x, .int .i64 c, .int .i64 k, .int .i64 a, .int .i64 t, .int .i64 c', .int .i64 k', .int .i64 a', .int .i64 t'], .int .i64 pl] w (Ans w [] false) := by
  subst hpl
  have CV := Lib.hid hV
  have CU := Lib.hid hU
  have CP := Lib.hid (fun W => isPlace_any ((q : Int) + 1) W true (decide_eq_true (by omega)))
  have hix := run_index_layer T τ ν q hq
  obtain ⟨tq, htq⟩ : ∃ y, T q = y := ⟨_, rfl⟩
  rw [htq] at hix
  have X0 := Lib.hid (BoxF.new w [.int .i64 d, .int .i64 l, .int .i64 f, .int .i64 s, .int .i64 o, .int .i64 n, .int .i64 x, .int .i64 c, .int .i64 k, .int .i64 a, .int .i64 t, .int .i64 c', .int .i64 k', .int .i64 a', .int .i64 t'] 29)
  have B0 := Lib.hid ((Below.refl _ w).alloc (Nat.le_refl _) (.cells #[.int .i64 d, .int .i64 l, .int .i64 f, .int .i64 s, .int .i64 o, .int .i64 n, .int .i64 x, .int .i64 c, .int .i64 k, .int .i64 a, .int .i64 t, .int .i64 c', .int .i64 k', .int .i64 a', .int .i64 t'] 29 (0, 0)))
  have r0 := X0.out.range
  obtain rfl : tq = 0 := htq.symm.trans h0
  clear hV hU h0 htq
  go_enter Tryd.func8, Tryd.ntmps8
  go_wp2_with (with_reducible refine isList ?_; refine ld15 2 w.heap.size [.int .i64 d, .int .i64 l, .int .i64 f, .int .i64 s, .int .i64 o, .int .i64 n, .int .i64 x, .int .i64 c, .int .i64 k, .int .i64 a, .int .i64 t, .int .i64 c', .int .i64 k', .int .i64 a', .int .i64 t'] rfl rfl rfl rfl ?_ ?_; exact r0)
  refine (CV.out _ B0.out).mono ?_
  rintro e w1 ⟨rfl, h1⟩
  have X1 := Lib.hid (X0.out.below h1)
  have B1 := Lib.hid (B0.out.trans (h1.mono B0.out.size))
  clear h1 B0 r0 X0
  go_wp2_with fail
  refine (CP.out _).mono ?_
  rintro e w1' ⟨rfl, rfl⟩
  have r1 := X1.out.range
  go_wp2_with (with_reducible refine isList ?_; refine ld15 2 w.heap.size [.int .i64 d, .int .i64 l, .int .i64 f, .int .i64 s, .int .i64 o, .int .i64 n, .int .i64 x, .int .i64 c, .int .i64 k, .int .i64 a, .int .i64 t, .int .i64 c', .int .i64 k', .int .i64 a', .int .i64 t'] rfl rfl rfl rfl ?_ ?_; exact r1)
  refine (CU.out _).mono ?_
  rintro e w2 ⟨rfl, h2⟩
  have B2 := Lib.hid (B1.out.trans (h2.mono B1.out.size))
  clear h2 B1 r1 X1
  go_wp2_with fail
  go_ret2
  exact ⟨none, 0, rfl, ownI_nil _ _, B2.out.alloc B2.out.size _⟩
set_option linter.unusedSimpArgs false in
set_option maxRecDepth 100000 in
set_option maxHeartbeats 8000000 in
theorem allow_walk (d l f s o n x c k a t c' k' a' t' pl : Int) (T : Nat → Int) (τ : Nat → TypeId) (ν : Nat → Value) (q : Nat) (hq : q < 3) (hpl : pl = (q : Int) + 1) (h0 : T q ≠ 0) (p : Int → Bool) (w : World)
    (hV : ∀ W, Below w.heap.size w W → Calls Tryd.prog 30 #[.agg #[.int .i64 d, .int .i64 l, .int .i64 f, .int .i64 s, .int .i64 o, .int .i64 n, .int .i64 x, .int .i64 c, .int .i64 k, .int .i64 a, .int .i64 t, .int .i64 c', .int .i64 k', .int .i64 a', .int .i64 t']] W fun e w' => e = .returned (.bool true) ∧ Below W.heap.size W w')
    (hU : ∀ W, Calls Tryd.prog 37 #[.agg #[.int .i64 d, .int .i64 l, .int .i64 f, .int .i64 s, .int .i64 o, .int .i64 n, .int .i64 x, .int .i64 c, .int .i64 k, .int .i64 a, .int .i64 t, .int .i64 c', .int .i64 k', .int .i64 a', .int .i64 t']] W fun e w' => e = .returned (.agg #[.int .i64 (T 0), .iface (τ 0) (ν 0), .int .i64 (T 1), .iface (τ 1) (ν 1), .int .i64 (T 2), .iface (τ 2) (ν 2)]) ∧ Below W.heap.size W w')
    (hB : ∀ (y : Int) W, Calls Tryd.prog 38 #[.agg #[.int .i64 y, .iface (τ q) (ν q)]] W fun e w' => e = .returned (.bool (p y)) ∧ Below W.heap.size W w') :
    Calls Tryd.prog 8 #[.agg #[.int .i64 d, .int .i64 l, .int .i64 f, .int .i64 s, .int .i64 o, .int .i64 n, .int .i64 x, .int .i64 c, .int .i64 k, .int .i64 a, .int .i64 t, .int .i64 c', .int .i64 k', .int .i64 a', .int .i64 t'], .int .i64 pl] w (Ans w (alL p 9) true) := by
  have CB := Lib.hid hB
  obtain ⟨i0, hi, hz0, hz1, hz2⟩ := info_parts infoI
  subst hpl
  have CV := Lib.hid hV
  have CU := Lib.hid hU
  have CP := Lib.hid (fun W => isPlace_any ((q : Int) + 1) W true (decide_eq_true (by omega)))
  have hix := run_index_layer T τ ν q hq
  obtain ⟨tq, htq⟩ : ∃ y, T q = y := ⟨_, rfl⟩
  rw [htq] at hix
  have X0 := Lib.hid (BoxF.new w [.int .i64 d, .int .i64 l, .int .i64 f, .int .i64 s, .int .i64 o, .int .i64 n, .int .i64 x, .int .i64 c, .int .i64 k, .int .i64 a, .int .i64 t, .int .i64 c', .int .i64 k', .int .i64 a', .int .i64 t'] 29)
  have B0 := Lib.hid ((Below.refl _ w).alloc (Nat.le_refl _) (.cells #[.int .i64 d, .int .i64 l, .int .i64 f, .int .i64 s, .int .i64 o, .int .i64 n, .int .i64 x, .int .i64 c, .int .i64 k, .int .i64 a, .int .i64 t, .int .i64 c', .int .i64 k', .int .i64 a', .int .i64 t'] 29 (0, 0)))
  have r0 := X0.out.range
  have et : (tq == 0) = false := by rw [beq_eq_false_iff_ne, ← htq]; exact h0
  clear hV hU hB h0 htq
  generalize τ q = tyk at *
  generalize ν q = vk at *
  go_enter Tryd.func8, Tryd.ntmps8
  go_wp2_with (with_reducible refine isList ?_; refine ld15 2 w.heap.size [.int .i64 d, .int .i64 l, .int .i64 f, .int .i64 s, .int .i64 o, .int .i64 n, .int .i64 x, .int .i64 c, .int .i64 k, .int .i64 a, .int .i64 t, .int .i64 c', .int .i64 k', .int .i64 a', .int .i64 t'] rfl rfl rfl rfl ?_ ?_; exact r0)
  refine (CV.out _ B0.out).mono ?_
  rintro e w1 ⟨rfl, h1⟩
  have X1 := Lib.hid (X0.out.below h1)
  have B1 := Lib.hid (B0.out.trans (h1.mono B0.out.size))
  clear h1 B0 r0 X0
  go_wp2_with fail
  refine (CP.out _).mono ?_
  rintro e w1' ⟨rfl, rfl⟩
  have r1 := X1.out.range
  go_wp2_with (with_reducible refine isList ?_; refine ld15 2 w.heap.size [.int .i64 d, .int .i64 l, .int .i64 f, .int .i64 s, .int .i64 o, .int .i64 n, .int .i64 x, .int .i64 c, .int .i64 k, .int .i64 a, .int .i64 t, .int .i64 c', .int .i64 k', .int .i64 a', .int .i64 t'] rfl rfl rfl rfl ?_ ?_; exact r1)
  refine (CU.out _).mono ?_
  rintro e w2 ⟨rfl, h2⟩
  have B2 := Lib.hid (B1.out.trans (h2.mono B1.out.size))
  clear h2 B1 r1 X1
  have XB := Lib.hid (BoxF.new w2 [.int .i64 tq, .iface tyk vk] 72)
  have BW := Lib.hid (B2.out.alloc B2.out.size (.cells #[.int .i64 tq, .iface tyk vk] 72 (0, 0)))
  have s2 := B2.out.size
  clear B2
  go_wp2_with fail
  go_loopw [7, 8] (fun v y wr => ∃ (m : Nat) (z : Int), m ≤ 9 ∧ y = .int .i64 ((m : Int) + 1) ∧ wr.ownsRow (w2.heap.size + 1) 3 1 v (alL p m).length ((alL p m).map (Value.int .i64)) ∧ BoxF wr w2.heap.size [.int .i64 z, .iface tyk vk] 72 ∧ Below w.heap.size w wr) (fun _ y _ => 10 - (intOf y).toNat)
  case atStart => exact ⟨0, tq, by omega, rfl, World.ownsRow_nil _ _ _ _, XB.out, BW.out⟩
  case round =>
    obtain ⟨m, z, hm, rfl, ho, hx, hb⟩ := hrel
    by_cases hlt : m < 9
    · have hl := alL_len p m
      have g0 := hx.at 0
      have gf := hx.free 0
      simp only [List.getElem?_cons_zero] at g0
      have hx2 := hx.set 0 (.int .i64 ((m : Int) + 1))
      simp only [List.set_cons_zero] at hx2
      have hg2 := grownBy_set wr w2.heap.size 0 (.int .i64 ((m : Int) + 1))
      have ho2 := rowFar ho hg2 (by omega)
      have hb2 := hb.grown hg2 hb.size (fun qq hqq => by cases hqq; omega)
      have HO := Lib.hid ho2
      have HX := Lib.hid hx2
      have HB := Lib.hid hb2
      have n0 := hx2.at 0
      have n1 := hx2.at 1
      simp only [List.getElem?_cons_zero, List.getElem?_cons_succ] at n0 n1
      clear ho2 hx2 hb2 hg2 ho hx hb
      obtain ⟨r, hr⟩ : ∃ r, p ((m : Int) + 1) = r := ⟨_, rfl⟩
      have CBm := Lib.hid (fun W => by have h_ := CB.out ((m : Int) + 1) W; rw [hr] at h_; exact h_)
      cases r
      · have HA := Lib.hid (alL_in hr)
        clear hr
        go_wp2_with fail
        refine (CBm.out _).mono ?_
        rintro e w3 ⟨rfl, h3⟩
        have HO3 := Lib.hid (rowBelow HO.out h3)
        have HX3 := Lib.hid (HX.out.below h3)
        have HB3 := Lib.hid (HB.out.trans (h3.mono HB.out.size))
        have bs := HX3.out.lt
        clear h3 HO HX HB g0 gf n0 n1
        go_wp2_with (at_builtin; refine wpList_append_own_at _ rfl _ _ 32 rfl (w2.heap.size + 1) 3 i0 (.int .i64 0) 1 8 Tryd.underlying32 hi hz0 hz1 hz2 rfl (by decide) _ _ _ rfl (HO3.out.alloc _) ⟨w3.heap.size, 0, none⟩ 1 1 [.int .i64 ((m : Int) + 1)] rfl rfl (cell_one_new _ _ _) (fun x hx => by simp at hx; subst hx; rfl) (by unfold maxLen; omega) (by omega) (by simp; omega) ?_; intro v' w4 hown' hgrow hnil hat)
        go_roundw
        case rel => exact ⟨m + 1, (m : Int) + 1, by omega, by go_num, sliceR (app_one hown') HA.out.symm, (HX3.out.alloc _).kept hgrow (fun e => by have := (World.ownsRow.lt HO3.out _ e.symm).1; omega), (HB3.out.alloc HB3.out.size _).grown hgrow (by have := HB3.out.size; simp; omega) (fun qq hqq => by have := (World.ownsRow.lt HO3.out qq hqq).1; omega)⟩
        case measure => simp [intOf]; omega
      · have HA := Lib.hid (alL_out hr)
        clear hr
        go_wp2_with fail
        refine (CBm.out _).mono ?_
        rintro e w3 ⟨rfl, h3⟩
        have HO3 := Lib.hid (rowBelow HO.out h3)
        have HX3 := Lib.hid (HX.out.below h3)
        have HB3 := Lib.hid (HB.out.trans (h3.mono HB.out.size))
        clear h3 HO HX HB g0 gf n0 n1
        go_wp2_with fail
        go_roundw
        case rel => exact ⟨m + 1, (m : Int) + 1, by omega, by go_num, sliceR HO3.out HA.out.symm, HX3.out, HB3.out⟩
        case measure => simp [intOf]; omega
    · obtain ⟨a0, cap0, rfl, hO⟩ := ownI_append ho
      have HO := Lib.hid (OwnI.low hO (B' := w.heap.size) (by omega))
      have HB := Lib.hid hb
      clear hO ho hx hb
      go_wp2_with fail
      go_ret2
      have e9 : m = 9 := by omega
      subst e9
      exact ⟨a0, cap0, rfl, HO.out, HB.out⟩
/-- Which tinctures break the rule at a layer. -/
def pk8 (d f s x : Int) : Nat → Int → Bool
  | 0 => fun y => brkL y (tincL d f s)
  | 1 => fun y => brkL y [x]
  | _ => fun y => brkL y (tincL d f s)
theorem layer_any (d l f s x : Int) (h : FOk d l f s) (q : Nat) (y : Int) (W : World) :
    Calls Tryd.prog 38 #[.agg #[.int .i64 y, .iface (ty8 q) (nu8 d l f s x q)]] W fun e w' => e = .returned (.bool (pk8 d f s x q y)) ∧ Below W.heap.size W w' := by
  match q with
  | 0 => exact breaks_any _ _ _ W (tincL_l8 d f s) fun W' _ => below_field _ d l f s W' h
  | 1 => exact breaks_any _ _ _ W (by simp) fun W' _ => below_band _ x W'
  | _ + 2 => exact breaks_any _ _ _ W (tincL_l8 d f s) fun W' _ => below_field _ d l f s W' h
theorem allow_yes (d l f s o n x c k a t c' k' a' t' pl : Int) (q : Nat) (hq : q < 3) (hpl : pl = (q : Int) + 1) (w : World) (hr : aOkB d l f s o n x c k a t c' k' a' t' = true) (hF : FOk d l f s) (hA : AttsLie w) (h0 : tk8 x t t' q ≠ 0) :
    Calls Tryd.prog 8 #[.agg #[.int .i64 d, .int .i64 l, .int .i64 f, .int .i64 s, .int .i64 o, .int .i64 n, .int .i64 x, .int .i64 c, .int .i64 k, .int .i64 a, .int .i64 t, .int .i64 c', .int .i64 k', .int .i64 a', .int .i64 t'], .int .i64 pl] w (Ans w (alL (pk8 d f s x q) 9) true) :=
  allow_walk d l f s o n x c k a t c' k' a' t' pl (tk8 x t t') ty8 (nu8 d l f s x) q hq hpl h0 (pk8 d f s x q) w (fun W hb => validArms_impl d l f s o n x c k a t c' k' a' t' W true hr (hA.below hb)) (fun W => upper_any d l f s o n x c k a t c' k' a' t' W) (layer_any d l f s x hF q)
theorem allow_no (d l f s o n x c k a t c' k' a' t' pl : Int) (q : Nat) (hq : q < 3) (hpl : pl = (q : Int) + 1) (w : World) (hr : aOkB d l f s o n x c k a t c' k' a' t' = true) (hA : AttsLie w) (h0 : tk8 x t t' q = 0) :
    Calls Tryd.prog 8 #[.agg #[.int .i64 d, .int .i64 l, .int .i64 f, .int .i64 s, .int .i64 o, .int .i64 n, .int .i64 x, .int .i64 c, .int .i64 k, .int .i64 a, .int .i64 t, .int .i64 c', .int .i64 k', .int .i64 a', .int .i64 t'], .int .i64 pl] w (Ans w [] false) :=
  allow_none d l f s o n x c k a t c' k' a' t' pl (tk8 x t t') ty8 (nu8 d l f s x) q hq hpl h0 w (fun W hb => validArms_impl d l f s o n x c k a t c' k' a' t' W true hr (hA.below hb)) (fun W => upper_any d l f s o n x c k a t c' k' a' t' W)
end Go.Proofs.YtmmbhglmafnfpabDoor
