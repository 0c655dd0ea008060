/- Contracts: whether a region is valid, the program's and the model's. -/
import Derived.Test.YtkhpgggaaldhhaaDoorC9S
import Derived.Test.YtkhpgggaaldhhaaDoorC9T
namespace Go.Proofs.YtkhpgggaaldhhaaDoor
open Go.RowKit

/-- The numbers fit into 64 bits. -/
def WfI (X : List Int) : Prop := ∀ z ∈ X, -9223372036854775808 ≤ z ∧ z < 9223372036854775808
/-- The rows are those of a region. -/
def goodR (X : List Int) : Bool := decide (X.length = 24) && (List.range 24).all (fun y => goodRow (shN y) (X.getD y 0))
theorem goodR_at {X : List Int} (h : goodR X = true) {y : Nat} (hy : y < 24) : goodRow (shN y) (X.getD y 0) = true := by
  unfold goodR at h
  simp only [Bool.and_eq_true, List.all_eq_true, List.mem_range] at h
  exact h.2 y hy
theorem goodR_len {X : List Int} (h : goodR X = true) : X.length = 24 := by
  unfold goodR at h
  simp only [Bool.and_eq_true, decide_eq_true_eq] at h
  exact h.1
theorem goodR_no {X : List Int} {y : Nat} (hy : y < 24) (h : goodRow (shN y) (X.getD y 0) = false) : goodR X = false := by
  cases hg : goodR X
  · rfl
  · rw [goodR_at hg hy] at h; cases h
theorem goodR_yes {X : List Int} (hl : X.length = 24) (h : ∀ y, y < 24 → goodRow (shN y) (X.getD y 0) = true) : goodR X = true := by
  unfold goodR
  simp only [Bool.and_eq_true, decide_eq_true_eq, List.all_eq_true, List.mem_range]
  exact ⟨hl, h⟩
theorem rowsOfR_at (f : Nat → Nat) {y : Nat} (hy : y < 24) : (rowsOfR f)[y]? = some ((f y : Nat) : Int) := by
  unfold rowsOfR
  rw [List.getElem?_map, List.getElem?_range hy]; rfl
theorem rowsOfR_getD (f : Nat → Nat) {y : Nat} (hy : y < 24) : (rowsOfR f).getD y 0 = ((f y : Nat) : Int) := by
  simp [List.getD, rowsOfR_at f hy]
theorem field_rows (p : Option Addr) (n c : Nat) (w : World) : (Instr.field 35 (.agg #[.slice p n c]) 0).run Tryd.prog w = .ok (.slice p n c) w := by
  first | kernel_rfl | rfl | simp [go_sem]
set_option maxRecDepth 100000 in
set_option maxHeartbeats 2000000 in
theorem valid_impl (X : List Int) (n : Nat) (a : Option Addr) (c : Nat) (w : World) (h : RdI w a n X) (hwf : WfI X) (hn : n ≤ 1048577) :
    Calls Tryd.prog 63 #[.agg #[.slice a n c]] w fun e w' => e = .returned (.bool (goodR X)) ∧ Below w.heap.size w w' := by
  have XA := BoxF.new w [.slice a n c] 35
  have hb := (Below.refl _ w).alloc (Nat.le_refl _) (.cells #[.slice a n c] 35 (0, 0))
  have c1 := XA.one.1
  by_cases h24 : n = 24
  · subst h24
    obtain ⟨b, o, rfl, _, hc⟩ := (h.below hb).2 (by omega)
    have HX := Lib.hid XA
    have HC := Lib.hid (h.below hb)
    have HL := Lib.hid h.1
    have HW := Lib.hid hwf
    have HB := Lib.hid hb
    clear h hwf hb XA hc
    go_enter Tryd.func63, Tryd.ntmps63
    go_wp2_with fail
    refine (shield_impl _).mono ?_
    rintro e w1 ⟨g, rfl, ho, hb1⟩
    have HX1 := Lib.hid (HX.out.below hb1)
    have HC1 := Lib.hid (HC.out.below hb1)
    have HB1 := Lib.hid (HB.out.trans (hb1.mono HB.out.size))
    have HS := Lib.hid ho.rd
    clear ho hb1 HX HC HB c1
    have hfld := fun W => field_rows (some ⟨g, 0, none⟩) 24 24 W
    go_wp2_with fail
    clear hfld
    go_loopw [12] (fun i wr => ∃ y : Nat, y ≤ 24 ∧ i = .int .i64 (y : Int) ∧ wr = w1 ∧ ∀ j, j < y → goodRow (shN j) (X.getD j 0) = true) (fun i _ => 24 - (intOf i).toNat)
    case atStart => exact ⟨0, by omega, rfl, rfl, fun j hj => by omega⟩
    case round =>
      obtain ⟨y, hy, rfl, rfl, hall⟩ := hrel
      by_cases hlt : y < 24
      · have ely : decide ((y : Int) < 24) = true := decide_eq_true (by omega)
        obtain ⟨b2, o2, e2, _, hc2⟩ := HS.out.2 (by omega)
        cases e2
        obtain ⟨b3, o3, e3, _, hc3⟩ := HC1.out.2 (by omega)
        cases e3
        have x1 := hc2 y hlt
        rw [rowsOfR_getD shN hlt, Nat.zero_add] at x1
        have x2 := hc3 y hlt
        obtain ⟨A, hA⟩ : ∃ A, X.getD y 0 = A := ⟨_, rfl⟩
        rw [hA] at x2
        have hwA := HW.out A (by rw [← hA]; simp [List.getD, List.getElem?_eq_getElem (show y < X.length by rw [HL.out]; exact hlt)])
        have hz := andNot_zero A (shN y) (shN_lt y) hwA.1 hwA.2
        have c1 := HX1.out.one.1
        have HALL := Lib.hid hall
        clear hc2 hc3 hall
        cases hg : goodRow (shN y) A
        · have hz2 : (bits .andNot .i64 A ((shN y : Nat) : Int) != 0) = true := by rw [bne, hz, hg]; rfl
          have hr := Lib.hid (goodR_no (X := X) hlt (by rw [hA]; exact hg))
          clear hz hg
          go_wp2_with fail
          go_ret
          exact ⟨by rw [hr.out]; rfl, HB1.out⟩
        · have hz2 : (bits .andNot .i64 A ((shN y : Nat) : Int) != 0) = false := by rw [bne, hz, hg]; rfl
          have HG := Lib.hid (show goodRow (shN y) (X.getD y 0) = true by rw [hA]; exact hg)
          clear hz hg
          go_wp2_with fail
          go_roundw
          case rel =>
            refine ⟨y + 1, by omega, by go_num, by first | rfl | trivial, fun j hj => ?_⟩
            by_cases hjy : j = y
            · subst hjy; exact HG.out
            · exact HALL.out j (by omega)
          case measure => simp [intOf]; omega
      · have ely : decide ((y : Int) < 24) = false := decide_eq_false (by omega)
        obtain rfl : y = 24 := by omega
        have hr := Lib.hid (goodR_yes HL.out hall)
        clear hall
        go_wp2_with fail
        go_ret
        exact ⟨by rw [hr.out]; rfl, HB1.out⟩
  · have hr : goodR X = false := by
      unfold goodR
      rw [decide_eq_false (by rw [h.1]; exact h24)]; rfl
    have en : ((n : Int) != 24) = true := by simp; omega
    rw [hr]
    have HB := Lib.hid hb
    clear h hwf hb XA hr h24
    go_enter Tryd.func63, Tryd.ntmps63
    go_wp2_with fail
    go_ret
    exact ⟨rfl, HB.out⟩
/-- The region has the cell. -/
def hasB (X : List Int) (x y : Nat) : Bool := (X.getD y 0).toNat.testBit x
def hasZ (X : List Int) (x y : Int) : Bool := decide (0 ≤ x ∧ x ≤ 19) && (decide (0 ≤ y ∧ y ≤ 23) && hasB X x.toNat y.toNat)
theorem bit_and1 (N x : Nat) (hN : N < 1048576) : (bits .and .i64 ((N : Int) / 2 ^ x) 1 == 1) = N.testBit x := by
  have e1 : (N : Int) / 2 ^ x = ((N / 2 ^ x : Nat) : Int) := by simp
  have hd : N / 2 ^ x ≤ N := Nat.div_le_self _ _
  have e2 := i64_and_nat (N / 2 ^ x) 1 (by omega) (by omega)
  rw [e1]
  simp only [Int.natCast_one] at e2
  rw [e2, Nat.and_one_is_mod, Nat.testBit_eq_decide_div_mod_eq]
  have hm := Nat.mod_lt (N / 2 ^ x) (show 0 < 2 by decide)
  rcases (show N / 2 ^ x % 2 = 0 ∨ N / 2 ^ x % 2 = 1 by omega) with h | h <;> rw [h] <;> rfl
/-- The model's test of a row is the program's. -/
theorem goodRow_bits {y : Nat} {N : Nat} (hN : N < 1048576) : goodRow (shN y) (N : Int) = true ↔ ∀ x, x < 20 → N.testBit x = true → shB x y = true := by
  unfold goodRow
  simp only [Bool.and_eq_true, decide_eq_true_eq, Int.toNat_natCast]
  rw [sub_mask]
  constructor
  · rintro ⟨_, h⟩ x hx hb
    have := h x hb
    unfold shN at this
    rw [rowN_bit] at this
    simp at this; exact this.2
  · intro h
    refine ⟨by omega, fun x hb => ?_⟩
    have hx : x < 20 := by
      rcases Nat.lt_or_ge x 20 with h1 | h1
      · exact h1
      · rw [Nat.testBit_lt_two_pow (Nat.lt_of_lt_of_le (show N < 2 ^ 20 by omega) (Nat.pow_le_pow_right (by omega) h1))] at hb; cases hb
    unfold shN
    rw [rowN_bit]
    simp [hx, h x hx hb]
theorem goodRow_range {y : Nat} {A : Int} (h : goodRow (shN y) A = true) : 0 ≤ A ∧ A ≤ 1048575 := by
  obtain ⟨n, rfl, hn, _⟩ := goodRow_out (shN_lt y) h
  omega
end Go.Proofs.YtkhpgggaaldhhaaDoor
