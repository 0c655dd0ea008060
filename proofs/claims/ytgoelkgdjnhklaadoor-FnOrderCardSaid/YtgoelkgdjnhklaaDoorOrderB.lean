/- Contracts: the draws of FnOrder; a step of its loop; the answers on ordinaries. -/
import Derived.Test.YtgoelkgdjnhklaaDoorSortBoth
import Derived.Test.YtgoelkgdjnhklaaDoorDrawSimp
import Derived.Test.YtgoelkgdjnhklaaDoorKF
import Derived.Test.YtgoelkgdjnhklaaDoorKO1
namespace Go.Proofs.YtgoelkgdjnhklaaDoor
open Go.RowKit

theorem lessT_asymm {x y : ByteArray} (h : lessT x y = true) : lessT y x = false := by
  have e := gtT x.toList y.toList
  unfold lessT at h ⊢
  rw [h] at e
  cases hh : Op.bytesLess y.toList x.toList
  · rfl
  · rw [hh] at e; simp at e
set_option linter.unusedSimpArgs false in
set_option maxRecDepth 100000 in
set_option maxHeartbeats 8000000 in
theorem drawOrd_any (x : Option Addr) (n cap : Nat) (w : World) (h : RdB w w.heap.size x n) (hn : n ≤ 65536) :
    Calls Tryd.prog 20 #[.slice x n cap] w fun e w' => (∃ o m t : Int, e = .returned (.tuple #[.int .i64 o, .int .i64 m, .int .i64 t])) ∧ Below w.heap.size w w' := by
  have HC0 := Lib.hid (isCur_new cap h)
  have HB0 := Lib.hid ((Below.refl w.heap.size w).alloc (Nat.le_refl _) (.cells #[.slice x n cap, .int .i64 0, .int .u64 0] 96 (0, 0)))
  clear h
  go_enter Tryd.func20, Tryd.ntmps20
  go_wp2_with fail
  refine (pick_any _ _ x n cap 0 _ HC0.out (by omega) hn 9 (by omega) (by omega)).mono ?_
  rintro e w1 ⟨⟨r1, rfl, _, _⟩, hc1, hg1⟩
  have HC1 := Lib.hid hc1
  have HB1 := Lib.hid (HB0.out.grown hg1 HB0.out.size (fun q hq => by cases hq; exact Nat.le_refl _))
  clear hc1 hg1 HC0 HB0
  go_wp2_with fail
  refine (pick_any _ _ x n cap _ _ HC1.out (by omega) hn 6 (by omega) (by omega)).mono ?_
  rintro e w2 ⟨⟨r2, rfl, _, _⟩, hc2, hg2⟩
  have HC2 := Lib.hid hc2
  have HB2 := Lib.hid (HB1.out.grown hg2 HB1.out.size (fun q hq => by cases hq; exact Nat.le_refl _))
  clear hc2 hg2 HC1 HB1
  go_wp2_with fail
  refine (anyTincture_any _ _ x n cap _ _ HC2.out (by omega) hn).mono ?_
  rintro e w3 ⟨⟨r3, rfl, _, _⟩, hc3, hg3⟩
  have HB3 := Lib.hid (HB2.out.grown hg3 HB2.out.size (fun q hq => by cases hq; exact Nat.le_refl _))
  clear hc3 hg3 HC2 HB2
  go_wp2_with fail
  exact bodyPost_ret (v := .tuple #[.int .i64 r1, .int .i64 r2, .int .i64 r3]) (by simp [results, Tryd.results20, go_sem]) rfl ⟨⟨r1, r2, r3, rfl⟩, HB3.out⟩
set_option linter.unusedSimpArgs false in
set_option maxRecDepth 100000 in
set_option maxHeartbeats 8000000 in
theorem drawSort_any (x : Option Addr) (n cap : Nat) (w : World) (h : RdB w w.heap.size x n) (hn : n ≤ 65536) :
    Calls Tryd.prog 15 #[.slice x n cap] w (DrewRow w) := by
  have C := Lib.hid (drawSimp_any x n cap w h hn)
  clear h
  go_enter Tryd.func15, Tryd.ntmps15
  go_wp2_with fail
  refine C.out.mono ?_
  rintro e w1 ⟨X, a, k, rfl, h1, h2, h3⟩
  have H := Lib.hid (And.intro h1 (And.intro h2 h3))
  clear h1 h2 h3 C
  go_wp2_with fail
  go_ret
  exact ⟨X, a, k, rfl, H.out⟩
/-- The answers on an ordinary, a line and a tincture. -/
theorem ord_answers (o n x : Int) : ∃ (s : ByteArray) (one : Bool) (x' y' z' : Int) (two : Bool),
    (∀ W, STabs W → Calls Tryd.prog 21 #[.int .i64 o, .int .i64 n, .int .i64 x] W fun e w' => e = .returned (.tuple #[.string s, .bool one]) ∧ Below W.heap.size W w') ∧
    (∀ W, Calls Tryd.prog 23 #[.int .i64 o, .int .i64 n, .int .i64 x] W fun e w' => e = .returned (.tuple #[.string s, .bool one]) ∧ Below W.heap.size W w') ∧
    (∀ W, STabs W → Calls Tryd.prog 22 #[.string s] W fun e w' => e = .returned (.tuple #[.int .i64 x', .int .i64 y', .int .i64 z', .bool two]) ∧ Below W.heap.size W w') ∧
    (one = false ∨ (one = true ∧ two = true ∧ x' = o ∧ y' = n ∧ z' = x)) := by
  by_cases h : (1 ≤ o ∧ o ≤ 7) ∧ (0 ≤ n ∧ n ≤ 4) ∧ (1 ≤ x ∧ x ≤ 9)
  · obtain ⟨ho, hn, hx⟩ := h
    obtain ⟨a, rfl⟩ : ∃ a : Nat, o = (a : Int) := ⟨o.toNat, by omega⟩
    obtain ⟨b, rfl⟩ : ∃ b : Nat, n = (b : Int) := ⟨n.toNat, by omega⟩
    obtain ⟨c, rfl⟩ : ∃ c : Nat, x = (c : Int) + 1 := ⟨(x - 1).toNat, by omega⟩
    have e : oN (a : Int) (b : Int) ((c : Int) + 1) = otextN a b c := by
      unfold oN
      rw [show ((a : Int)).toNat = a by omega, show ((b : Int)).toNat = b by omega, show ((c : Int) + 1 - 1).toNat = c by omega]
    have hz := otextN_size (o := a) (n := b) (i := c) (by omega) (by omega) (by omega)
    obtain ⟨x', y', z', two, hP, hC⟩ := parseOrd_impl (otextN a b c) (by omega)
    refine ⟨otextN a b c, true, x', y', z', two, fun W hT => by have r := ordText_impl ho hn hx W hT.ord; rw [e] at r; exact r, fun W => ordText_spec a b c W (by omega) (by omega) (by omega) (by omega), fun W hT => hC W hT.ord, .inr ⟨rfl, ?_⟩⟩
    rcases hP with ⟨h0, g1, g2, g3, g4⟩ | ⟨_, _, _, _, g5⟩
    · have r1 := readO_text (o := x'.toNat) (n := y'.toNat) (i := (z' - 1).toNat) (by omega) (by omega) (by omega) (by omega)
      rw [g4, readO_text (by omega) (by omega) (by omega) (by omega)] at r1
      simp only [Prod.mk.injEq] at r1
      exact ⟨h0, by omega, by omega, by omega⟩
    · exact absurd rfl (g5 a b c (by omega) (by omega) (by omega) (by omega))
  · have hd : (decide (1 ≤ o ∧ o ≤ 7) && (decide (0 ≤ n ∧ n ≤ 4) && decide (1 ≤ x ∧ x ≤ 9))) = false := by
      by_cases h1 : 1 ≤ o ∧ o ≤ 7 <;> by_cases h2 : 0 ≤ n ∧ n ≤ 4 <;> by_cases h3 : 1 ≤ x ∧ x ≤ 9 <;> simp [h1, h2, h3]
      exact h ⟨h1, h2, h3⟩
    obtain ⟨x', y', z', two, hP, hC⟩ := parseOrd_impl ByteArray.empty (by decide)
    exact ⟨ByteArray.empty, false, x', y', z', two, fun W _ => ordText_impl_no o n x W hd, fun W => ordText_spec_no o n x W hd, fun W hT => hC W hT.ord, .inl rfl⟩
/-- A step of the loop: two neighbours of the sorted row. -/
theorem order_step {X : List Arm} {i : Nat} (h0 : 1 ≤ i) (hi : i < (sortAns X).length) : ∃ (q1 q0 : Nat) (A B : Arm), (sortAns X)[i]? = some (q1 : Int) ∧ (sortAns X)[i - 1]? = some (q0 : Int) ∧ X[q1]? = some A ∧ X[q0]? = some B ∧ q1 < X.length ∧ q0 < X.length ∧
    ∀ W, STabs W → Calls Tryd.prog 19 #[.agg #[.int .i64 A.d, .int .i64 A.l, .int .i64 A.f, .int .i64 A.s, .int .i64 A.o, .int .i64 A.n, .int .i64 A.x, .int .i64 A.c, .int .i64 A.k, .int .i64 A.a, .int .i64 A.t, .int .i64 A.c', .int .i64 A.k', .int .i64 A.a', .int .i64 A.t'], .agg #[.int .i64 B.d, .int .i64 B.l, .int .i64 B.f, .int .i64 B.s, .int .i64 B.o, .int .i64 B.n, .int .i64 B.x, .int .i64 B.c, .int .i64 B.k, .int .i64 B.a, .int .i64 B.t, .int .i64 B.c', .int .i64 B.k', .int .i64 B.a', .int .i64 B.t']] W fun e w' => e = .returned (.tuple #[.bool false, .bool true]) ∧ Below W.heap.size W w' := by
  have hc : X.length ≤ 20 ∧ X.all Arm.ok = true := by
    rcases Classical.em (X.length ≤ 20 ∧ X.all Arm.ok = true) with h | h
    · exact h
    · rw [show sortAns X = [] from if_neg h] at hi; simp at hi
  have e : sortAns X = sortL X X.length X.length := if_pos hc
  rw [e] at hi ⊢
  rw [sortL_len] at hi
  obtain ⟨q1, hq1, g1, s1⟩ := sortL_at X (Nat.le_refl X.length) hi
  obtain ⟨q0, hq0, g0, s0⟩ := sortL_at X (Nat.le_refl X.length) (show i - 1 < X.length by omega)
  have hs := sortN_sorted (ltA X) (fun a b h => lessT_asymm h) (n := X.length) (Nat.le_refl _) (i - 1) (by omega)
  rw [show i - 1 + 1 = i by omega, g1, g0] at hs
  have a1 : X[q1]? = some X[q1] := List.getElem?_eq_getElem hq1
  have a0 : X[q0]? = some X[q0] := List.getElem?_eq_getElem hq0
  have k1 : (X[q1]).ok = true := List.all_eq_true.1 hc.2 _ (List.getElem_mem _)
  have k0 : (X[q0]).ok = true := List.all_eq_true.1 hc.2 _ (List.getElem_mem _)
  have hl : lessT (X[q1]).text (X[q0]).text = false := by
    have e1 : X.getD q1 default = X[q1] := by simp [List.getD, a1]
    have e0 : X.getD q0 default = X[q0] := by simp [List.getD, a0]
    unfold ltA at hs
    rw [e1, e0] at hs
    exact hs
  refine ⟨q1, q0, X[q1], X[q0], s1, s0, a1, a0, hq1, hq0, fun W hT => ?_⟩
  have r := before_impl (X[q1]).d (X[q1]).l (X[q1]).f (X[q1]).s (X[q1]).o (X[q1]).n (X[q1]).x (X[q1]).c (X[q1]).k (X[q1]).a (X[q1]).t (X[q1]).c' (X[q1]).k' (X[q1]).a' (X[q1]).t' (X[q0]).d (X[q0]).l (X[q0]).f (X[q0]).s (X[q0]).o (X[q0]).n (X[q0]).x (X[q0]).c (X[q0]).k (X[q0]).a (X[q0]).t (X[q0]).c' (X[q0]).k' (X[q0]).a' (X[q0]).t' W true true k1 k0 hT
  rw [show lessT (armsN (X[q1]).d (X[q1]).l (X[q1]).f (X[q1]).s (X[q1]).o (X[q1]).n (X[q1]).x (X[q1]).c (X[q1]).k (X[q1]).a (X[q1]).t (X[q1]).c' (X[q1]).k' (X[q1]).a' (X[q1]).t') (armsN (X[q0]).d (X[q0]).l (X[q0]).f (X[q0]).s (X[q0]).o (X[q0]).n (X[q0]).x (X[q0]).c (X[q0]).k (X[q0]).a (X[q0]).t (X[q0]).c' (X[q0]).k' (X[q0]).a' (X[q0]).t') = false from hl] at r
  exact r
end Go.Proofs.YtgoelkgdjnhklaaDoor
