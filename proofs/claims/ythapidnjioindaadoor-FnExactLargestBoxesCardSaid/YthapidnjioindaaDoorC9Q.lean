/- Plain facts: the number of bits of a row, counted by the library's three masks. -/
import Derived.Laws.BitsAllLaws
import Derived.WalkKit
namespace Go.Proofs.YthapidnjioindaaDoor
open Go.RowKit

/-- How many of the first k are taken. -/
def cntB (p : Nat → Bool) : Nat → Nat
  | 0 => 0
  | k + 1 => cntB p k + if p k then 1 else 0
theorem cntB_succ (p : Nat → Bool) (k : Nat) : cntB p (k + 1) = cntB p k + if p k then 1 else 0 := rfl
theorem cntB_add (p : Nat → Bool) (i : Nat) : ∀ j, cntB p (i + j) = cntB p i + cntB (fun x => p (i + x)) j
  | 0 => rfl
  | j + 1 => by rw [← Nat.add_assoc, cntB_succ, cntB_succ, cntB_add p i j]; omega
theorem cntB_congr {p q : Nat → Bool} : ∀ {k : Nat}, (∀ x, x < k → p x = q x) → cntB p k = cntB q k
  | 0, _ => rfl
  | k + 1, h => by rw [cntB_succ, cntB_succ, cntB_congr (fun x hx => h x (by omega)), h k (by omega)]
theorem cntB_none {p : Nat → Bool} : ∀ {k : Nat}, (∀ x, x < k → p x = false) → cntB p k = 0
  | 0, _ => rfl
  | k + 1, h => by rw [cntB_succ, cntB_none (fun x hx => h x (by omega)), h k (by omega)]; rfl
theorem cntB_le (p : Nat → Bool) : ∀ k, cntB p k ≤ k
  | 0 => Nat.le_refl _
  | k + 1 => by rw [cntB_succ]; have := cntB_le p k; split <;> omega
/-- The bits of a byte. -/
def popB (a : Nat) : Nat := cntB a.testBit 8
/-- The bits of a row of twenty cells. -/
def popN (N : Nat) : Nat := cntB N.testBit 20
theorem popN_split (N : Nat) (h : N < 1048576) : popN N = popB (N % 256) + popB (N / 256 % 256) + popB (N / 65536) := by
  unfold popN popB
  rw [show (20 : Nat) = 8 + (8 + 4) from rfl, cntB_add, cntB_add]
  have e1 : cntB N.testBit 8 = cntB (N % 256).testBit 8 := cntB_congr fun x hx => by
    rw [show (256 : Nat) = 2 ^ 8 from rfl, Nat.testBit_mod_two_pow]; simp [hx]
  have e2 : cntB (fun x => N.testBit (8 + x)) 8 = cntB (N / 256 % 256).testBit 8 := cntB_congr fun x hx => by
    rw [show N / 256 % 256 = N / 2 ^ 8 % 2 ^ 8 from rfl, Nat.testBit_mod_two_pow, Nat.testBit_div_two_pow]; simp [hx, Nat.add_comm]
  have e3 : cntB (fun x => N.testBit (8 + (8 + x))) 4 = cntB (N / 65536).testBit 8 := by
    rw [show (8 : Nat) = 4 + 4 from rfl, cntB_add]
    rw [cntB_none (k := 4) (p := fun x => (N / 65536).testBit (4 + x)) (fun x _ => Nat.testBit_lt_two_pow (Nat.lt_of_lt_of_le (show N / 65536 < 2 ^ 4 by omega) (Nat.pow_le_pow_right (by omega) (by omega))))]
    refine (cntB_congr fun x hx => ?_).trans (Nat.add_zero _).symm
    rw [show N / 65536 = N / 2 ^ 16 from rfl, Nat.testBit_div_two_pow]
    congr 1; omega
  rw [e1, e2, e3]; omega
def f1B (a : Nat) : Nat := (a / 2 &&& 85) + (a &&& 85)
def f2B (a : Nat) : Nat := (a / 4 &&& 51) + (a &&& 51)
theorem tabB : ∀ a, a < 256 → f1B a < 256 ∧ f2B (f1B a) ≤ 68 ∧ f2B (f1B a) % 16 ≤ 4 ∧ (f2B (f1B a) / 16 + f2B (f1B a)) % 16 = popB a ∧ popB a ≤ 8 := by decide +kernel
theorem tab2 : ∀ a, a < 256 → ∀ e, e < 2 → (a / 2 + 128 * e) &&& 85 = a / 2 &&& 85 := by decide +kernel
theorem tab4 : ∀ a, a < 256 → ∀ e, e < 4 → (a / 4 + 64 * e) &&& 51 = a / 4 &&& 51 := by decide +kernel
theorem and_split (x q r t : Nat) (hx : x < 256) (hr : r < 256) : (256 * q + x) &&& (256 * t + r) = 256 * (q &&& t) + (x &&& r) := by
  have hxr : x &&& r < 2 ^ 8 := Nat.lt_of_le_of_lt Nat.and_le_left (by omega)
  apply Nat.eq_of_testBit_eq
  intro j
  rw [Nat.testBit_and, show (256 : Nat) = 2 ^ 8 from rfl, Nat.testBit_two_pow_mul_add q (by omega), Nat.testBit_two_pow_mul_add t (by omega), Nat.testBit_two_pow_mul_add (q &&& t) hxr, Nat.testBit_and, Nat.testBit_and]
  split <;> rfl
theorem and3 (a b c r : Nat) (ha : a < 256) (hb : b < 256) (hr : r < 256) : (65536 * c + 256 * b + a) &&& (65536 * r + 256 * r + r) = 65536 * (c &&& r) + 256 * (b &&& r) + (a &&& r) := by
  have e : ∀ c b a : Nat, 65536 * c + 256 * b + a = 256 * (256 * c + b) + a := fun c b a => by omega
  rw [e, e, and_split _ _ _ _ ha hr, and_split _ _ _ _ hb hr]; omega
theorem and_trunc (x m : Nat) (hx : x < 16777216) : x &&& m = x &&& (m % 16777216) := by
  have h1 : x &&& m < 16777216 := Nat.lt_of_le_of_lt Nat.and_le_left hx
  have h := Nat.and_mod_two_pow (a := x) (b := m) (n := 24)
  rw [show (2 : Nat) ^ 24 = 16777216 from rfl, Nat.mod_eq_of_lt h1, Nat.mod_eq_of_lt hx] at h
  exact h
theorem step1 (a b c : Nat) (ha : a < 256) (hb : b < 256) (hc : c < 256) :
    (((65536 * c + 256 * b + a) / 2) &&& 6148914691236517205) + ((65536 * c + 256 * b + a) &&& 6148914691236517205) = 65536 * f1B c + 256 * f1B b + f1B a := by
  rw [and_trunc _ 6148914691236517205 (by omega), and_trunc (65536 * c + 256 * b + a) 6148914691236517205 (by omega)]
  rw [show (6148914691236517205 : Nat) % 16777216 = 65536 * 85 + 256 * 85 + 85 from rfl]
  rw [show (65536 * c + 256 * b + a) / 2 = 65536 * (c / 2) + 256 * (b / 2 + 128 * (c % 2)) + (a / 2 + 128 * (b % 2)) by omega]
  rw [and3 _ _ _ 85 (by omega) (by omega) (by omega), and3 _ _ _ 85 ha hb (by omega), tab2 b hb _ (by omega), tab2 a ha _ (by omega)]
  unfold f1B; omega
theorem step2 (a b c : Nat) (ha : a < 256) (hb : b < 256) (hc : c < 256) :
    (((65536 * c + 256 * b + a) / 4) &&& 3689348814741910323) + ((65536 * c + 256 * b + a) &&& 3689348814741910323) = 65536 * f2B c + 256 * f2B b + f2B a := by
  rw [and_trunc _ 3689348814741910323 (by omega), and_trunc (65536 * c + 256 * b + a) 3689348814741910323 (by omega)]
  rw [show (3689348814741910323 : Nat) % 16777216 = 65536 * 51 + 256 * 51 + 51 from rfl]
  rw [show (65536 * c + 256 * b + a) / 4 = 65536 * (c / 4) + 256 * (b / 4 + 64 * (c % 4)) + (a / 4 + 64 * (b % 4)) by omega]
  rw [and3 _ _ _ 51 (by omega) (by omega) (by omega), and3 _ _ _ 51 ha hb (by omega), tab4 b hb _ (by omega), tab4 a ha _ (by omega)]
  unfold f2B; omega
theorem step3 (a b c : Nat) (ha : a ≤ 68) (hb : b ≤ 68) (hc : c ≤ 68) (hb4 : b % 16 ≤ 4) (hc4 : c % 16 ≤ 4) :
    ((65536 * c + 256 * b + a) / 16 + (65536 * c + 256 * b + a)) &&& 1085102592571150095 = 65536 * ((c / 16 + c) % 16) + 256 * ((b / 16 + b) % 16) + (a / 16 + a) % 16 := by
  rw [and_trunc _ 1085102592571150095 (by omega)]
  rw [show (1085102592571150095 : Nat) % 16777216 = 65536 * 15 + 256 * 15 + 15 from rfl]
  rw [show (65536 * c + 256 * b + a) / 16 + (65536 * c + 256 * b + a) = 65536 * (c / 16 + c) + 256 * (b / 16 + b + 16 * (c % 16)) + (a / 16 + a + 16 * (b % 16)) by omega]
  rw [and3 _ _ _ 15 (by omega) (by omega) (by omega), nat_mask4, nat_mask4, nat_mask4]
  omega
/-- The library's way of counting comes to the number of bits. -/
theorem pop_swar (N s1 s2 s3 s4 s5 s6 : Nat) (hN : N < 1048576) (h1 : s1 = (N / 2 &&& 6148914691236517205) + (N &&& 6148914691236517205))
    (h2 : s2 = (s1 / 4 &&& 3689348814741910323) + (s1 &&& 3689348814741910323)) (h3 : s3 = (s2 / 16 + s2) &&& 1085102592571150095)
    (h4 : s4 = s3 + s3 / 256) (h5 : s5 = s4 + s4 / 65536) (h6 : s6 = s5 + s5 / 4294967296) :
    s1 < 16777216 ∧ s2 < 16777216 ∧ s3 < 16777216 ∧ s4 < 33554432 ∧ s5 < 67108864 ∧ s6 < 134217728 ∧ s6 % 128 = popN N := by
  have hN2 : N = 65536 * (N / 65536) + 256 * (N / 256 % 256) + N % 256 := by omega
  rw [popN_split N hN]
  have ha : N % 256 < 256 := by omega
  have hb : N / 256 % 256 < 256 := by omega
  have hc : N / 65536 < 256 := by omega
  generalize N % 256 = a at hN2 ha ⊢
  generalize N / 256 % 256 = b at hN2 hb ⊢
  generalize N / 65536 = c at hN2 hc ⊢
  subst hN2
  rw [step1 a b c ha hb hc] at h1
  obtain ⟨a1, a2, a3, a4, a5⟩ := tabB a ha
  obtain ⟨b1, b2, b3, b4, b5⟩ := tabB b hb
  obtain ⟨c1, c2, c3, c4, c5⟩ := tabB c hc
  subst h1
  rw [step2 (f1B a) (f1B b) (f1B c) a1 b1 c1] at h2
  subst h2
  rw [step3 _ _ _ a2 b2 c2 b3 c3, a4, b4, c4] at h3
  have g1 : 65536 * f1B c + 256 * f1B b + f1B a < 16777216 := by omega
  have g2 : 65536 * f2B (f1B c) + 256 * f2B (f1B b) + f2B (f1B a) < 16777216 := by omega
  clear a1 a2 a3 a4 b1 b2 b3 b4 c1 c2 c3 c4 ha hb hc hN
  refine ⟨g1, g2, ?_⟩
  clear g1 g2
  generalize popB a = p at *
  generalize popB b = q at *
  generalize popB c = r at *
  have k4 : s4 = 65536 * r + 256 * (q + r) + (p + q) := by omega
  clear h4
  have k5 : s5 = 65536 * r + 256 * (q + r) + (p + q + r) := by omega
  clear h5
  have k6 : s6 = s5 := by omega
  omega
end Go.Proofs.YthapidnjioindaaDoor
