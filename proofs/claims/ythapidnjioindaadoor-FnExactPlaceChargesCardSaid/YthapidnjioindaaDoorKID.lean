/- Several small texts in one: C9Q, C9N. -/
import Derived.Laws.BitsAllLaws
import Derived.WalkKit
import Derived.Laws.Bits128
import Derived.Maps.AppendAt
import Derived.Test.YthapidnjioindaaDoorKIC
namespace Go.Proofs.YthapidnjioindaaDoor
open Go.RowKit

/-- How many of the first k are taken. -/
def cntB (p : Nat → Bool) : Nat → Nat
  | 0 => 0
  | k + 1 => cntB p k + if p k then 1 else 0
theorem cntB_succ (p : Nat → Bool) (k : Nat) : cntB p (k + 1) = cntB p k + if p k then 1 else 0 := rfl
theorem cntB_add (p : Nat → Bool) (i : Nat) : ∀ j, cntB p (i + j) = cntB p i + cntB (fun x => p (i + x)) j
  | 0 => rfl
  | j + 1 => by rw [← Nat.add_assoc, cntB_succ, cntB_succ, cntB_add p i j]; omega
theorem cntB_congr {p q : Nat → Bool} : ∀ {k : Nat}, (∀ x, x < k → p x = q x) → cntB p k = cntB q k
  | 0, _ => rfl
  | k + 1, h => by rw [cntB_succ, cntB_succ, cntB_congr (fun x hx => h x (by omega)), h k (by omega)]
theorem cntB_none {p : Nat → Bool} : ∀ {k : Nat}, (∀ x, x < k → p x = false) → cntB p k = 0
  | 0, _ => rfl
  | k + 1, h => by rw [cntB_succ, cntB_none (fun x hx => h x (by omega)), h k (by omega)]; rfl
theorem cntB_le (p : Nat → Bool) : ∀ k, cntB p k ≤ k
  | 0 => Nat.le_refl _
  | k + 1 => by rw [cntB_succ]; have := cntB_le p k; split <;> omega
/-- The bits of a byte. -/
def popB (a : Nat) : Nat := cntB a.testBit 8
/-- The bits of a row of twenty cells. -/
def popN (N : Nat) : Nat := cntB N.testBit 20
theorem popN_split (N : Nat) (h : N < 1048576) : popN N = popB (N % 256) + popB (N / 256 % 256) + popB (N / 65536) := by
  unfold popN popB
  rw [show (20 : Nat) = 8 + (8 + 4) from rfl, cntB_add, cntB_add]
  have e1 : cntB N.testBit 8 = cntB (N % 256).testBit 8 := cntB_congr fun x hx => by
    rw [show (256 : Nat) = 2 ^ 8 from rfl, Nat.testBit_mod_two_pow]; simp [hx]
  have e2 : cntB (fun x => N.testBit (8 + x)) 8 = cntB (N / 256 % 256).testBit 8 := cntB_congr fun x hx => by
    rw [show N / 256 % 256 = N / 2 ^ 8 % 2 ^ 8 from rfl, Nat.testBit_mod_two_pow, Nat.testBit_div_two_pow]; simp [hx, Nat.add_comm]
  have e3 : cntB (fun x => N.testBit (8 + (8 + x))) 4 = cntB (N / 65536).testBit 8 := by
    rw [show (8 : Nat) = 4 + 4 from rfl, cntB_add]
    rw [cntB_none (k := 4) (p := fun x => (N / 65536).testBit (4 + x)) (fun x _ => Nat.testBit_lt_two_pow (Nat.lt_of_lt_of_le (show N / 65536 < 2 ^ 4 by omega) (Nat.pow_le_pow_right (by omega) (by omega))))]
    refine (cntB_congr fun x hx => ?_).trans (Nat.add_zero _).symm
    rw [show N / 65536 = N / 2 ^ 16 from rfl, Nat.testBit_div_two_pow]
    congr 1; omega
  rw [e1, e2, e3]; omega
def f1B (a : Nat) : Nat := (a / 2 &&& 85) + (a &&& 85)
def f2B (a : Nat) : Nat := (a / 4 &&& 51) + (a &&& 51)
theorem tabB : ∀ a, a < 256 → f1B a < 256 ∧ f2B (f1B a) ≤ 68 ∧ f2B (f1B a) % 16 ≤ 4 ∧ (f2B (f1B a) / 16 + f2B (f1B a)) % 16 = popB a ∧ popB a ≤ 8 := by decide +kernel
theorem tab2 : ∀ a, a < 256 → ∀ e, e < 2 → (a / 2 + 128 * e) &&& 85 = a / 2 &&& 85 := by decide +kernel
theorem tab4 : ∀ a, a < 256 → ∀ e, e < 4 → (a / 4 + 64 * e) &&& 51 = a / 4 &&& 51 := by decide +kernel
theorem and_split (x q r t : Nat) (hx : x < 256) (hr : r < 256) : (256 * q + x) &&& (256 * t + r) = 256 * (q &&& t) + (x &&& r) := by
  have hxr : x &&& r < 2 ^ 8 := Nat.lt_of_le_of_lt Nat.and_le_left (by omega)
  apply Nat.eq_of_testBit_eq
  intro j
  rw [Nat.testBit_and, show (256 : Nat) = 2 ^ 8 from rfl, Nat.testBit_two_pow_mul_add q (by omega), Nat.testBit_two_pow_mul_add t (by omega), Nat.testBit_two_pow_mul_add (q &&& t) hxr, Nat.testBit_and, Nat.testBit_and]
  split <;> rfl
theorem and3 (a b c r : Nat) (ha : a < 256) (hb : b < 256) (hr : r < 256) : (65536 * c + 256 * b + a) &&& (65536 * r + 256 * r + r) = 65536 * (c &&& r) + 256 * (b &&& r) + (a &&& r) := by
  have e : ∀ c b a : Nat, 65536 * c + 256 * b + a = 256 * (256 * c + b) + a := fun c b a => by omega
  rw [e, e, and_split _ _ _ _ ha hr, and_split _ _ _ _ hb hr]; omega
theorem and_trunc (x m : Nat) (hx : x < 16777216) : x &&& m = x &&& (m % 16777216) := by
  have h1 : x &&& m < 16777216 := Nat.lt_of_le_of_lt Nat.and_le_left hx
  have h := Nat.and_mod_two_pow (a := x) (b := m) (n := 24)
  rw [show (2 : Nat) ^ 24 = 16777216 from rfl, Nat.mod_eq_of_lt h1, Nat.mod_eq_of_lt hx] at h
  exact h
theorem step1 (a b c : Nat) (ha : a < 256) (hb : b < 256) (hc : c < 256) :
    (((65536 * c + 256 * b + a) / 2) &&& 6148914691236517205) + ((65536 * c + 256 * b + a) &&& 6148914691236517205) = 65536 * f1B c + 256 * f1B b + f1B a := by
  rw [and_trunc _ 6148914691236517205 (by omega), and_trunc (65536 * c + 256 * b + a) 6148914691236517205 (by omega)]
  rw [show (6148914691236517205 : Nat) % 16777216 = 65536 * 85 + 256 * 85 + 85 from rfl]
  rw [show (65536 * c + 256 * b + a) / 2 = 65536 * (c / 2) + 256 * (b / 2 + 128 * (c % 2)) + (a / 2 + 128 * (b % 2)) by omega]
  rw [and3 _ _ _ 85 (by omega) (by omega) (by omega), and3 _ _ _ 85 ha hb (by omega), tab2 b hb _ (by omega), tab2 a ha _ (by omega)]
  unfold f1B; omega
theorem step2 (a b c : Nat) (ha : a < 256) (hb : b < 256) (hc : c < 256) :
    (((65536 * c + 256 * b + a) / 4) &&& 3689348814741910323) + ((65536 * c + 256 * b + a) &&& 3689348814741910323) = 65536 * f2B c + 256 * f2B b + f2B a := by
  rw [and_trunc _ 3689348814741910323 (by omega), and_trunc (65536 * c + 256 * b + a) 3689348814741910323 (by omega)]
  rw [show (3689348814741910323 : Nat) % 16777216 = 65536 * 51 + 256 * 51 + 51 from rfl]
  rw [show (65536 * c + 256 * b + a) / 4 = 65536 * (c / 4) + 256 * (b / 4 + 64 * (c % 4)) + (a / 4 + 64 * (b % 4)) by omega]
  rw [and3 _ _ _ 51 (by omega) (by omega) (by omega), and3 _ _ _ 51 ha hb (by omega), tab4 b hb _ (by omega), tab4 a ha _ (by omega)]
  unfold f2B; omega
theorem step3 (a b c : Nat) (ha : a ≤ 68) (hb : b ≤ 68) (hc : c ≤ 68) (hb4 : b % 16 ≤ 4) (hc4 : c % 16 ≤ 4) :
    ((65536 * c + 256 * b + a) / 16 + (65536 * c + 256 * b + a)) &&& 1085102592571150095 = 65536 * ((c / 16 + c) % 16) + 256 * ((b / 16 + b) % 16) + (a / 16 + a) % 16 := by
  rw [and_trunc _ 1085102592571150095 (by omega)]
  rw [show (1085102592571150095 : Nat) % 16777216 = 65536 * 15 + 256 * 15 + 15 from rfl]
  rw [show (65536 * c + 256 * b + a) / 16 + (65536 * c + 256 * b + a) = 65536 * (c / 16 + c) + 256 * (b / 16 + b + 16 * (c % 16)) + (a / 16 + a + 16 * (b % 16)) by omega]
  rw [and3 _ _ _ 15 (by omega) (by omega) (by omega), nat_mask4, nat_mask4, nat_mask4]
  omega
/-- The library's way of counting comes to the number of bits. -/
theorem pop_swar (N s1 s2 s3 s4 s5 s6 : Nat) (hN : N < 1048576) (h1 : s1 = (N / 2 &&& 6148914691236517205) + (N &&& 6148914691236517205))
    (h2 : s2 = (s1 / 4 &&& 3689348814741910323) + (s1 &&& 3689348814741910323)) (h3 : s3 = (s2 / 16 + s2) &&& 1085102592571150095)
    (h4 : s4 = s3 + s3 / 256) (h5 : s5 = s4 + s4 / 65536) (h6 : s6 = s5 + s5 / 4294967296) :
    s1 < 16777216 ∧ s2 < 16777216 ∧ s3 < 16777216 ∧ s4 < 33554432 ∧ s5 < 67108864 ∧ s6 < 134217728 ∧ s6 % 128 = popN N := by
  have hN2 : N = 65536 * (N / 65536) + 256 * (N / 256 % 256) + N % 256 := by omega
  rw [popN_split N hN]
  have ha : N % 256 < 256 := by omega
  have hb : N / 256 % 256 < 256 := by omega
  have hc : N / 65536 < 256 := by omega
  generalize N % 256 = a at hN2 ha ⊢
  generalize N / 256 % 256 = b at hN2 hb ⊢
  generalize N / 65536 = c at hN2 hc ⊢
  subst hN2
  rw [step1 a b c ha hb hc] at h1
  obtain ⟨a1, a2, a3, a4, a5⟩ := tabB a ha
  obtain ⟨b1, b2, b3, b4, b5⟩ := tabB b hb
  obtain ⟨c1, c2, c3, c4, c5⟩ := tabB c hc
  subst h1
  rw [step2 (f1B a) (f1B b) (f1B c) a1 b1 c1] at h2
  subst h2
  rw [step3 _ _ _ a2 b2 c2 b3 c3, a4, b4, c4] at h3
  have g1 : 65536 * f1B c + 256 * f1B b + f1B a < 16777216 := by omega
  have g2 : 65536 * f2B (f1B c) + 256 * f2B (f1B b) + f2B (f1B a) < 16777216 := by omega
  clear a1 a2 a3 a4 b1 b2 b3 b4 c1 c2 c3 c4 ha hb hc hN
  refine ⟨g1, g2, ?_⟩
  clear g1 g2
  generalize popB a = p at *
  generalize popB b = q at *
  generalize popB c = r at *
  have k4 : s4 = 65536 * r + 256 * (q + r) + (p + q) := by omega
  clear h4
  have k5 : s5 = 65536 * r + 256 * (q + r) + (p + q + r) := by omega
  clear h5
  have k6 : s6 = s5 := by omega
  omega
end Go.Proofs.YthapidnjioindaaDoor
namespace Go.Proofs.YthapidnjioindaaDoor
open Go.RowKit

theorem u64w (n : Nat) (h : n < 18446744073709551616) : IntKind.u64.wrap (n : Int) = (n : Int) := by
  rw [IntKind.wrap_u64]; omega
set_option maxRecDepth 100000 in
set_option maxHeartbeats 2000000 in
theorem onesCount64 (N : Nat) (w : World) (hN : N < 1048576) :
    Calls Tryd.prog 116 #[.int .u64 (N : Int)] w fun e w' => e = .returned (.int .i64 (popN N : Int)) ∧ w = w' := by
  obtain ⟨x1, hx1⟩ : ∃ x, N / 2 &&& 6148914691236517205 = x := ⟨_, rfl⟩
  obtain ⟨x2, hx2⟩ : ∃ x, N &&& 6148914691236517205 = x := ⟨_, rfl⟩
  obtain ⟨s1, hs1⟩ : ∃ x, x1 + x2 = x := ⟨_, rfl⟩
  obtain ⟨y1, hy1⟩ : ∃ x, s1 / 4 &&& 3689348814741910323 = x := ⟨_, rfl⟩
  obtain ⟨y2, hy2⟩ : ∃ x, s1 &&& 3689348814741910323 = x := ⟨_, rfl⟩
  obtain ⟨s2, hs2⟩ : ∃ x, y1 + y2 = x := ⟨_, rfl⟩
  obtain ⟨q, hq⟩ : ∃ x, s2 / 16 + s2 = x := ⟨_, rfl⟩
  obtain ⟨s3, hs3⟩ : ∃ x, q &&& 1085102592571150095 = x := ⟨_, rfl⟩
  obtain ⟨s4, hs4⟩ : ∃ x, s3 + s3 / 256 = x := ⟨_, rfl⟩
  obtain ⟨s5, hs5⟩ : ∃ x, s4 + s4 / 65536 = x := ⟨_, rfl⟩
  obtain ⟨s6, hs6⟩ : ∃ x, s5 + s5 / 4294967296 = x := ⟨_, rfl⟩
  obtain ⟨b1, b2, b3, b4, b5, b6, b7⟩ := pop_swar N s1 s2 s3 s4 s5 s6 hN (by rw [hx1, hx2, hs1]) (by rw [hy1, hy2, hs2]) (by rw [hq, hs3]) hs4.symm hs5.symm hs6.symm
  have a1 : bits .and .u64 ((N : Int) / 2) 6148914691236517205 = (x1 : Int) := by
    have h := u64_and_nat (N / 2) 6148914691236517205 (by omega) (by omega)
    rw [hx1] at h
    rw [← h]; rfl
  have a2 : bits .and .u64 (N : Int) 6148914691236517205 = (x2 : Int) := by
    have h := u64_and_nat N 6148914691236517205 (by omega) (by omega)
    rw [hx2] at h
    rw [← h]; rfl
  have w1 : IntKind.u64.wrap ((x1 : Int) + (x2 : Int)) = (s1 : Int) := by
    have h := u64w s1 (by omega)
    rw [← hs1] at h ⊢
    simpa using h
  have a3 : bits .and .u64 ((s1 : Int) / 4) 3689348814741910323 = (y1 : Int) := by
    have h := u64_and_nat (s1 / 4) 3689348814741910323 (by omega) (by omega)
    rw [hy1] at h
    rw [← h]; rfl
  have a4 : bits .and .u64 (s1 : Int) 3689348814741910323 = (y2 : Int) := by
    have h := u64_and_nat s1 3689348814741910323 (by omega) (by omega)
    rw [hy2] at h
    rw [← h]; rfl
  have w2 : IntKind.u64.wrap ((y1 : Int) + (y2 : Int)) = (s2 : Int) := by
    have h := u64w s2 (by omega)
    rw [← hs2] at h ⊢
    simpa using h
  have w3 : IntKind.u64.wrap ((s2 : Int) / 16 + (s2 : Int)) = (q : Int) := by
    have h := u64w q (by omega)
    rw [← hq] at h ⊢
    simpa using h
  have a5 : bits .and .u64 (q : Int) 1085102592571150095 = (s3 : Int) := by
    have h := u64_and_nat q 1085102592571150095 (by omega) (by omega)
    rw [hs3] at h
    rw [← h]; rfl
  have w4 : IntKind.u64.wrap ((s3 : Int) + (s3 : Int) / 256) = (s4 : Int) := by
    have h := u64w s4 (by omega)
    rw [← hs4] at h ⊢
    simpa using h
  have w5 : IntKind.u64.wrap ((s4 : Int) + (s4 : Int) / 65536) = (s5 : Int) := by
    have h := u64w s5 (by omega)
    rw [← hs5] at h ⊢
    simpa using h
  have w6 : IntKind.u64.wrap ((s5 : Int) + (s5 : Int) / 4294967296) = (s6 : Int) := by
    have h := u64w s6 (by omega)
    rw [← hs6] at h ⊢
    simpa using h
  have a7 : bits .and .i64 (s6 : Int) 127 = (popN N : Int) := by
    rw [i64_and127, ← b7]; simp
  obtain ⟨t, ht⟩ : ∃ t, popN N = t := ⟨_, rfl⟩
  rw [ht] at a7 ⊢
  clear ht hs1 hs2 hq hs3 hs4 hs5 hs6 hx1 hx2 hy1 hy2 b7
  go_enter Tryd.func116, Tryd.ntmps116
  go_wp2_with fail
  go_ret
  exact ⟨rfl, rfl⟩
theorem onesCount (N : Nat) (w : World) (hN : N < 1048576) :
    Calls Tryd.prog 80 #[.int .u64 (N : Int)] w fun e w' => e = .returned (.int .i64 (popN N : Int)) ∧ w = w' := by
  have C := Lib.hid (fun W => onesCount64 N W hN)
  generalize (popN N : Int) = t at C ⊢
  go_enter Tryd.func80, Tryd.ntmps80
  go_wp2_with fail
  refine (C.out _).mono ?_
  rintro e w' ⟨rfl, rfl⟩
  go_wp2_with fail
  go_ret
  exact ⟨rfl, rfl⟩

/-- The numbers of a valid region's rows. -/
theorem goodR_nat {X : List Int} (h : goodR X = true) {y : Nat} (hy : y < 24) : X.getD y 0 = (((X.getD y 0).toNat : Nat) : Int) ∧ (X.getD y 0).toNat < 1048576 := by
  obtain ⟨n, e, hn, _⟩ := goodRow_out (shN_lt y) (goodR_at h hy)
  rw [e]; simp; omega
/-- The area of the first y rows. -/
def areaTo (X : List Int) : Nat → Nat
  | 0 => 0
  | y + 1 => areaTo X y + popN (X.getD y 0).toNat
theorem popN_le (N : Nat) : popN N ≤ 20 := cntB_le _ 20
theorem areaTo_le (X : List Int) : ∀ y, areaTo X y ≤ 20 * y
  | 0 => by simp [areaTo]
  | y + 1 => by have := areaTo_le X y; have := popN_le (X.getD y 0).toNat; show areaTo X y + _ ≤ _; omega
set_option maxRecDepth 100000 in
set_option maxHeartbeats 2000000 in
theorem area_impl (X : List Int) (n : Nat) (a : Option Addr) (c : Nat) (w : World) (h : RdI w a n X) (hwf : WfI X) (hn : n ≤ 1048577) :
    Calls Tryd.prog 40 #[.agg #[.slice a n c]] w fun e w' => e = .returned (.tuple #[.int .i64 (if goodR X then (areaTo X 24 : Int) else 0), .bool (goodR X)]) ∧ Below w.heap.size w w' := by
  have XA := BoxF.new w [.slice a n c] 26
  have hb := (Below.refl _ w).alloc (Nat.le_refl _) (.cells #[.slice a n c] 26 (0, 0))
  have c1 := XA.one.1
  have HR := Lib.hid h
  have CV := Lib.hid (valid_impl X n a c _ (h.below hb) hwf hn)
  have HX := Lib.hid XA
  have HB := Lib.hid hb
  clear h hb XA hwf
  cases hg : goodR X
  · rw [hg] at CV
    clear hg
    go_enter Tryd.func40, Tryd.ntmps40
    go_wp2_with fail
    refine CV.out.mono ?_
    rintro e w1 ⟨rfl, hb1⟩
    have HB1 := Lib.hid (HB.out.trans (hb1.mono HB.out.size))
    clear hb1 HX c1
    go_wp2_with fail
    go_ret2
    exact ⟨rfl, HB1.out⟩
  · rw [hg] at CV
    have HN := Lib.hid (fun (y : Nat) (hy : y < 24) => goodR_nat hg hy)
    have h24 : n = 24 := by rw [← HR.out.1]; exact goodR_len hg
    subst h24
    clear hg
    go_enter Tryd.func40, Tryd.ntmps40
    go_wp2_with fail
    refine CV.out.mono ?_
    rintro e w1 ⟨rfl, hb1⟩
    have HX1 := Lib.hid (HX.out.below hb1)
    have HB1 := Lib.hid (HB.out.trans (hb1.mono HB.out.size))
    have c1 := HX1.out.one.1
    clear hb1 HX HB CV
    go_wp2_with fail
    go_loopw [4, 13] (fun v i wr => ∃ y : Nat, y ≤ 24 ∧ i = .int .i64 (y : Int) ∧ v = .int .i64 (areaTo X y : Int) ∧ wr = w1) (fun _ i _ => 24 - (intOf i).toNat)
    case atStart => exact ⟨0, by omega, rfl, rfl, rfl⟩
    case round =>
      obtain ⟨y, hy, rfl, rfl, rfl⟩ := hrel
      by_cases hlt : y < 24
      · have ely : decide ((y : Int) < 24) = true := decide_eq_true (by omega)
        obtain ⟨b3, o3, rfl, _, hc3⟩ := (HR.out.below HB1.out).2 (by omega)
        have x2 := hc3 y hlt
        obtain ⟨n1, n2⟩ := HN.out y hlt
        obtain ⟨N, hN⟩ : ∃ N, (X.getD y 0).toNat = N := ⟨_, rfl⟩
        rw [hN] at n1 n2
        rw [n1] at x2
        have CO := Lib.hid (fun W => onesCount N W n2)
        have hst : areaTo X (y + 1) = areaTo X y + popN N := by show areaTo X y + _ = _; rw [hN]
        have HST := Lib.hid hst
        have hle := areaTo_le X y
        have hp := popN_le N
        generalize areaTo X y = A at *
        generalize popN N = B at *
        clear hc3 hst hN n1
        go_wp2_with fail
        refine (CO.out _).mono ?_
        rintro e w2 ⟨rfl, rfl⟩
        go_wp2_with fail
        go_roundw
        case rel => exact ⟨y + 1, by omega, by go_num, by rw [HST.out]; go_num, by first | rfl | trivial⟩
        case measure => simp [intOf]; omega
      · have ely : decide ((y : Int) < 24) = false := decide_eq_false (by omega)
        obtain rfl : y = 24 := by omega
        go_wp2_with fail
        go_ret2
        exact ⟨by first | rfl | simp, HB1.out⟩
/-- The cells of a region as numbers, the first k of the grid. -/
def cellsK (X : List Int) (k : Nat) : List Int := ((List.range k).filter (fun i => hasB X (i % 20) (i / 20))).map (fun i => ((i : Nat) : Int))
theorem cellsK_zero (X : List Int) : cellsK X 0 = [] := rfl
theorem cellsK_in (X : List Int) {y x : Nat} (hx : x < 20) (h : hasB X x y = true) : cellsK X (20 * y + x + 1) = cellsK X (20 * y + x) ++ [20 * (y : Int) + (x : Int)] := by
  have e1 : (20 * y + x) % 20 = x := by omega
  have e2 : (20 * y + x) / 20 = y := by omega
  unfold cellsK
  rw [List.range_succ, List.filter_append, List.map_append]
  congr 1
  simp [e1, e2, h]
theorem cellsK_out (X : List Int) {y x : Nat} (hx : x < 20) (h : hasB X x y = false) : cellsK X (20 * y + x + 1) = cellsK X (20 * y + x) := by
  have e1 : (20 * y + x) % 20 = x := by omega
  have e2 : (20 * y + x) / 20 = y := by omega
  unfold cellsK
  rw [List.range_succ, List.filter_append, List.map_append]
  simp [e1, e2, h]
theorem cellsK_len (X : List Int) (k : Nat) : (cellsK X k).length ≤ k := by
  unfold cellsK
  rw [List.length_map]
  have := List.length_filter_le (fun i => hasB X (i % 20) (i / 20)) (List.range k)
  simpa using this
theorem cellsK_row (X : List Int) (y : Nat) : ∀ x, x ≤ 20 → (cellsK X (20 * y + x)).length = (cellsK X (20 * y)).length + cntB (fun i => hasB X i y) x
  | 0, _ => rfl
  | x + 1, h => by
    have ih := cellsK_row X y x (by omega)
    rw [cntB_succ, ← Nat.add_assoc]
    cases hb : hasB X x y
    · rw [cellsK_out X (by omega) hb, ih]; simp
    · rw [cellsK_in X (by omega) hb, List.length_append, ih]; simp; omega
theorem cellsK_area (X : List Int) : ∀ y, (cellsK X (20 * y)).length = areaTo X y
  | 0 => rfl
  | y + 1 => by
    rw [show 20 * (y + 1) = 20 * y + 20 by omega, cellsK_row X y 20 (Nat.le_refl _), cellsK_area X y]
    rfl
set_option maxRecDepth 100000 in
set_option maxHeartbeats 4000000 in
theorem cells_spec (X : List Int) (a : Option Addr) (c : Nat) (w : World) (h : RdI w a 24 X) (hg : goodR X = true) :
    Calls Tryd.prog 85 #[.agg #[.slice a 24 c]] w fun e w' => ∃ (p : Option Addr) (k : Nat), e = .returned (.slice p (cellsK X 480).length k) ∧ OwnI w' w.heap.size p (cellsK X 480).length k (cellsK X 480) ∧ Below w.heap.size w w' := by
  obtain ⟨i0, hi, hz0, hz1, hz2⟩ := info_parts infoI
  have XA := (BoxF.new w [.slice a 24 c] 26).alloc (.cells #[] 3 (0, 0))
  have hb1 := (Below.refl _ w).alloc (Nat.le_refl _) (.cells #[.slice a 24 c] 26 (0, 0))
  have hb := hb1.alloc hb1.size (.cells #[] 3 (0, 0))
  have hown0 := World.ownsRow_lit (e := 3) (size := 1) (w.alloc (.cells #[.slice a 24 c] 26 (0, 0))) #[] 0 (Nat.le_refl _) (by unfold maxLen; omega) rfl
  have HR := Lib.hid h
  have HN := Lib.hid (fun (y : Nat) (hy : y < 24) => goodR_nat hg hy)
  have HX0 := Lib.hid XA
  have HB0 := Lib.hid hb
  have HO0 := Lib.hid hown0
  clear h hg hb1 hb XA hown0
  go_enter Tryd.func85, Tryd.ntmps85
  go_wp2_with fail
  go_loopw [3, 4] (fun v i wr => ∃ y : Nat, y ≤ 24 ∧ i = .int .i64 (y : Int) ∧ Hid (wr.ownsRow (w.heap.size + 1) 3 1 v (cellsK X (20 * y)).length ((cellsK X (20 * y)).map (Value.int .i64))) ∧ Hid (BoxF wr w.heap.size [.slice a 24 c] 26) ∧ Hid (Below w.heap.size w wr)) (fun _ i _ => 24 - (intOf i).toNat)
  case atStart => exact ⟨0, by omega, rfl, by simpa [cellsK_zero] using HO0, HX0, HB0⟩
  case round =>
    clear HX0 HB0 HO0
    obtain ⟨y, hy, rfl, HO, HX, HB⟩ := hrel
    by_cases hlt : y < 24
    · have ely : decide ((y : Int) < 24) = true := decide_eq_true (by omega)
      obtain ⟨n1, n2⟩ := HN.out y hlt
      obtain ⟨N, hN⟩ : ∃ N, (X.getD y 0).toNat = N := ⟨_, rfl⟩
      rw [hN] at n1 n2
      have HN1 := Lib.hid n1
      clear n1 hN
      go_wp2_with fail
      go_loopw [3, 5] (fun v i wr => ∃ x : Nat, x ≤ 20 ∧ i = .int .i64 (x : Int) ∧ Hid (wr.ownsRow (w.heap.size + 1) 3 1 v (cellsK X (20 * y + x)).length ((cellsK X (20 * y + x)).map (Value.int .i64))) ∧ Hid (BoxF wr w.heap.size [.slice a 24 c] 26) ∧ Hid (Below w.heap.size w wr)) (fun _ i _ => 20 - (intOf i).toNat)
      case atStart => exact ⟨0, by omega, rfl, HO, HX, HB⟩
      case round =>
        clear HO HX HB
        obtain ⟨x, hx, rfl, HO, HX, HB⟩ := hrel
        by_cases hlx : x < 20
        · have elx : decide ((x : Int) < 20) = true := decide_eq_true (by omega)
          have c1 := HX.out.one.1
          have CH := Lib.hid (l9Has_in X a c x y N _ (HR.out.below HB.out) hlx hlt HN1.out n2)
          go_wp2_with fail
          refine CH.out.mono ?_
          rintro e w3 ⟨rfl, hb3⟩
          have HO3 := World.ownsRow.kept (row := none) HO.out ⟨hb3.os, hb3.tape, hb3.output, hb3.size, fun i hi _ => hb3.block i hi⟩ (by cases h : Value.ownBlock _ <;> simp)
          have HX3 := HX.out.below hb3
          have HB3 := HB.out.trans (hb3.mono HB.out.size)
          clear hb3 HX HB c1 CH HO
          cases hbt : hasB X x y
          · have HA := Lib.hid (cellsK_out X hlx hbt)
            have HO3 := Lib.hid HO3
            have HX3 := Lib.hid HX3
            have HB3 := Lib.hid HB3
            clear hbt
            go_wp2_with fail
            go_roundw
            case rel => exact ⟨x + 1, by omega, by go_num, Lib.hid (sliceR HO3.out HA.out.symm), HX3, HB3⟩
            case measure => simp [intOf]; omega
          · have HA := Lib.hid (cellsK_in X hlx hbt)
            have hlen := cellsK_len X (20 * y + x)
            have hbz := HB3.size
            have HX3 := Lib.hid HX3
            have HB3 := Lib.hid HB3
            clear hbt
            go_wp2_with (at_builtin; refine wpList_append_own _ rfl _ _ 24 rfl (w.heap.size + 1) 3 i0 (.int .i64 0) 1 8 Tryd.underlying24 hi hz0 hz1 hz2 rfl (by decide) _ _ _ rfl (HO3.alloc _) ⟨w3.heap.size, 0, none⟩ 1 1 [.int .i64 (20 * (y : Int) + (x : Int))] rfl rfl (cell_one_new _ _ _) (fun x hx => by simp at hx; subst hx; rfl) (by unfold maxLen; omega) (by omega) (by have := HX3.out.lt; simp; omega) ?_; intro v' w4 hown' hgrow hnil)
            have HO4 := Lib.hid (sliceR (app_one hown') HA.out.symm)
            have HX4 := Lib.hid ((HX3.out.alloc (.cells #[.int .i64 (20 * (y : Int) + (x : Int))] 3 (0, 0))).kept hgrow (by intro e; have := (HO3.lt _ e.symm).1; omega))
            have HB4 := Lib.hid ((HB3.out.alloc HB3.out.size _).grown hgrow (by have := HB3.out.size; simp; omega) (fun q hq => by have := (HO3.lt q hq).1; omega))
            clear HO3 HX3 HB3 hown' hgrow hnil
            go_wp2_with fail
            go_roundw
            case rel => exact ⟨x + 1, by omega, by go_num, HO4, HX4, HB4⟩
            case measure => simp [intOf]; omega
        · have elx : decide ((x : Int) < 20) = false := decide_eq_false (by omega)
          obtain rfl : x = 20 := by omega
          go_wp2_with fail
          go_roundw
          case rel => exact ⟨y + 1, by omega, by go_num, by rw [show 20 * (y + 1) = 20 * y + 20 by omega]; exact HO, HX, HB⟩
          case measure => simp [intOf]; omega
    · have ely : decide ((y : Int) < 24) = false := decide_eq_false (by omega)
      obtain rfl : y = 24 := by omega
      obtain ⟨p, k, rfl, hO⟩ := ownI_append HO.out
      have HO2 := Lib.hid (OwnI.low hO (B' := w.heap.size) (by omega))
      clear hO HO
      go_wp2_with fail
      go_ret
      exact ⟨p, k, rfl, HO2.out, HB.out⟩
end Go.Proofs.YthapidnjioindaaDoor
