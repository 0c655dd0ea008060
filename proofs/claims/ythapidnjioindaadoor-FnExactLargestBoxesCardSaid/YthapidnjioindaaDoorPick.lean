/- Contracts: the cursor's pick, one, of and among. -/
import Derived.Test.YthapidnjioindaaDoorCur
namespace Go.Proofs.YthapidnjioindaaDoor
open Go.RowKit

theorem IsCur.mono {w : World} {B p : Nat} {a : Option Addr} {n cap M M' : Nat} (h : IsCur w B p a n cap M) (hm : M ≤ M') : IsCur w B p a n cap M' := by
  obtain ⟨hB, hR, at_, seed, hat, hp⟩ := h
  exact ⟨hB, hR, at_, seed, by omega, hp⟩
theorem grownBy_refl (w : World) (o : Option Nat) : w.grownBy w o := ⟨rfl, rfl, rfl, Nat.le_refl _, fun _ _ _ => rfl⟩
theorem grownBy_trans {w w1 w2 : World} {o : Option Nat} (h : w.grownBy w1 o) (h' : w1.grownBy w2 o) : w.grownBy w2 o := by
  obtain ⟨a1, a2, a3, a4, a5⟩ := h
  obtain ⟨b1, b2, b3, b4, b5⟩ := h'
  exact ⟨b1.trans a1, b2.trans a2, b3.trans a3, by omega, fun k hk hne => (b5 k (by omega) hne).trans (a5 k hk hne)⟩
theorem mod_pick {x N : Int} (hN : 1 < N) : 0 ≤ x % N ∧ x % N < N := by
  exact ⟨Int.emod_nonneg _ (by omega), Int.emod_lt_of_pos _ (by omega)⟩

theorem pick_any (B p : Nat) (a : Option Addr) (n cap M : Nat) (w : World) (h : IsCur w B p a n cap M) (hM : M ≤ 999990) (hn : n ≤ 65536) (N : Int) (hN0 : 0 ≤ N) (hN : N ≤ 1000000) :
    Calls Tryd.prog 61 #[.pointer (some ⟨p, 0, none⟩), .int .i64 N] w fun e w' => (∃ r : Int, e = .returned (.int .i64 r) ∧ 0 ≤ r ∧ (r < N ∨ r = 0)) ∧ IsCur w' B p a n cap (M + 2) ∧ w.grownBy w' (some p) := by
  by_cases h1 : N ≤ 1
  · have e1 : decide (N ≤ 1) = true := by simp; omega
    have H := Lib.hid h
    clear h
    go_enter Tryd.func61, Tryd.ntmps61
    go_wp2_with fail
    go_ret
    exact ⟨⟨0, rfl, by omega, .inr rfl⟩, H.out.mono (by omega), grownBy_refl _ _⟩
  · have e1 : decide (N ≤ 1) = false := by simp; omega
    have e0 : (N == 0) = false := by simp; omega
    have c1 := next_any B p a n cap M w h (by omega) hn
    have c2 := fun w1 h1 => next_any B p a n cap (M + 1) w1 h1 (by omega) hn
    clear h
    by_cases h2 : 200 < N
    · have e2 : decide (200 < N) = true := by simp; omega
      go_enter Tryd.func61, Tryd.ntmps61
      go_wp2_with fail
      refine c1.mono ?_
      rintro e w1 ⟨⟨x, rfl, hx0, hx1⟩, hc1, hg1⟩
      go_wp2_with fail
      refine (c2 w1 hc1).mono ?_
      rintro e w2 ⟨⟨y, rfl, hy0, hy1⟩, hc2, hg2⟩
      have hm := mod_pick (x := x * 256 + y) (N := N) (by omega)
      have HC := Lib.hid hc2
      clear hc1 hc2
      go_wp2_with fail
      go_ret
      exact ⟨⟨_, rfl, hm.1, .inl hm.2⟩, HC.out.mono (by omega), hg1.trans hg2⟩
    · have e2 : decide (200 < N) = false := by simp; omega
      go_enter Tryd.func61, Tryd.ntmps61
      go_wp2_with fail
      refine c1.mono ?_
      rintro e w1 ⟨⟨x, rfl, hx0, hx1⟩, hc1, hg1⟩
      have hm := mod_pick (x := x) (N := N) (by omega)
      have HC := Lib.hid hc1
      clear hc1
      go_wp2_with fail
      go_ret
      exact ⟨⟨_, rfl, hm.1, .inl hm.2⟩, HC.out.mono (by omega), hg1⟩

theorem one_any (B p : Nat) (a : Option Addr) (n cap M : Nat) (w : World) (h : IsCur w B p a n cap M) (hM : M ≤ 999990) (hn : n ≤ 65536) (N : Int) (hN0 : 0 ≤ N) (hN : N ≤ 1000000) :
    Calls Tryd.prog 90 #[.pointer (some ⟨p, 0, none⟩), .int .i64 N] w fun e w' => (∃ b : Bool, e = .returned (.bool b)) ∧ IsCur w' B p a n cap (M + 2) ∧ w.grownBy w' (some p) := by
  have c1 := pick_any B p a n cap M w h hM hn N hN0 hN
  clear h
  go_enter Tryd.func90, Tryd.ntmps90
  go_wp2_with fail
  refine c1.mono ?_
  rintro e w1 ⟨⟨x, rfl, hx0, hx1⟩, hc1, hg1⟩
  have HC := Lib.hid hc1
  clear hc1
  go_wp2_with fail
  go_ret
  exact ⟨⟨_, rfl⟩, HC.out, hg1⟩


/-- Row g holds m numbers from -L to L. -/
def NumRow (w : World) (g m L : Nat) : Prop := ∀ k, k < m → ∃ x : Int, w.cell? ⟨g, k, none⟩ = some (.int .i64 x) ∧ -(L : Int) ≤ x ∧ x ≤ L
theorem among_any (B p : Nat) (a : Option Addr) (n cap M : Nat) (w : World) (h : IsCur w B p a n cap M) (hM : M ≤ 999990) (hn : n ≤ 65536) (g m cp L : Nat) (hm0 : 0 < m) (hm : m ≤ 1000) (hr : NumRow w g m L) (hgp : g ≠ p) (hgw : g < w.heap.size) :
    Calls Tryd.prog 49 #[.pointer (some ⟨p, 0, none⟩), .slice (some ⟨g, 0, none⟩) m cp] w fun e w' => (∃ x : Int, e = .returned (.int .i64 x) ∧ -(L : Int) ≤ x ∧ x ≤ L) ∧ IsCur w' B p a n cap (M + 2) ∧ w.grownBy w' (some p) := by
  have c1 := pick_any B p a n cap M w h hM hn m (by omega) (by omega)
  have HR := Lib.hid hr
  clear h hr
  go_enter Tryd.func49, Tryd.ntmps49
  go_wp2_with fail
  refine c1.mono ?_
  rintro e w1 ⟨⟨x, rfl, hx0, hx1⟩, hc1, hg1⟩
  obtain ⟨k, rfl⟩ : ∃ k : Nat, x = k := ⟨x.toNat, by omega⟩
  obtain ⟨s, hs, hS⟩ := HR.out k (by omega)
  have hs1 : w1.cell? ⟨g, k, none⟩ = some (.int .i64 s) := (World.cell?_of_block (hg1.block g hgw (by simp; omega))).trans hs
  have HC := Lib.hid hc1
  have hk : k < m := by omega
  clear hc1 hs hx1
  go_wp2_with fail
  go_ret
  exact ⟨⟨s, rfl, hS⟩, HC.out, hg1⟩
/-- Row g holds m numbers of which P holds. -/
def NumRowP (w : World) (g m : Nat) (P : Int → Prop) : Prop := ∀ k, k < m → ∃ x : Int, w.cell? ⟨g, k, none⟩ = some (.int .i64 x) ∧ P x
theorem among_p (B p : Nat) (a : Option Addr) (n cap M : Nat) (w : World) (h : IsCur w B p a n cap M) (hM : M ≤ 999990) (hn : n ≤ 65536) (g m cp : Nat) (P : Int → Prop) (hm0 : 0 < m) (hm : m ≤ 1000) (hr : NumRowP w g m P) (hgp : g ≠ p) (hgw : g < w.heap.size) :
    Calls Tryd.prog 49 #[.pointer (some ⟨p, 0, none⟩), .slice (some ⟨g, 0, none⟩) m cp] w fun e w' => (∃ x : Int, e = .returned (.int .i64 x) ∧ P x) ∧ IsCur w' B p a n cap (M + 2) ∧ w.grownBy w' (some p) := by
  have c1 := pick_any B p a n cap M w h hM hn m (by omega) (by omega)
  have HR := Lib.hid hr
  clear h hr
  go_enter Tryd.func49, Tryd.ntmps49
  go_wp2_with fail
  refine c1.mono ?_
  rintro e w1 ⟨⟨x, rfl, hx0, hx1⟩, hc1, hg1⟩
  obtain ⟨k, rfl⟩ : ∃ k : Nat, x = k := ⟨x.toNat, by omega⟩
  obtain ⟨s, hs, hS⟩ := HR.out k (by omega)
  have hs1 : w1.cell? ⟨g, k, none⟩ = some (.int .i64 s) := (World.cell?_of_block (hg1.block g hgw (by simp; omega))).trans hs
  have HC := Lib.hid hc1
  have hk : k < m := by omega
  clear hc1 hs hx1
  go_wp2_with fail
  go_ret
  exact ⟨⟨s, rfl, hS⟩, HC.out, hg1⟩
end Go.Proofs.YthapidnjioindaaDoor
