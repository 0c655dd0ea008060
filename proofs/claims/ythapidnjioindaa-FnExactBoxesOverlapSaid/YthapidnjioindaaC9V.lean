/- Contracts: whether a region is valid, the program's and the model's. -/
import Derived.Test.YthapidnjioindaaC9S
import Derived.Test.YthapidnjioindaaC9T
namespace Go.Proofs.Ythapidnjioindaa
open Go.RowKit

/-- The numbers fit into 64 bits. -/
def WfI (X : List Int) : Prop := ∀ z ∈ X, -9223372036854775808 ≤ z ∧ z < 9223372036854775808
/-- The rows are those of a region. -/
def goodR (X : List Int) : Bool := decide (X.length = 24) && (List.range 24).all (fun y => goodRow (shN y) (X.getD y 0))
theorem goodR_at {X : List Int} (h : goodR X = true) {y : Nat} (hy : y < 24) : goodRow (shN y) (X.getD y 0) = true := by
  unfold goodR at h
  simp only [Bool.and_eq_true, List.all_eq_true, List.mem_range] at h
  exact h.2 y hy
theorem goodR_len {X : List Int} (h : goodR X = true) : X.length = 24 := by
  unfold goodR at h
  simp only [Bool.and_eq_true, decide_eq_true_eq] at h
  exact h.1
theorem goodR_no {X : List Int} {y : Nat} (hy : y < 24) (h : goodRow (shN y) (X.getD y 0) = false) : goodR X = false := by
  cases hg : goodR X
  · rfl
  · rw [goodR_at hg hy] at h; cases h
theorem goodR_yes {X : List Int} (hl : X.length = 24) (h : ∀ y, y < 24 → goodRow (shN y) (X.getD y 0) = true) : goodR X = true := by
  unfold goodR
  simp only [Bool.and_eq_true, decide_eq_true_eq, List.all_eq_true, List.mem_range]
  exact ⟨hl, h⟩
theorem rowsOfR_at (f : Nat → Nat) {y : Nat} (hy : y < 24) : (rowsOfR f)[y]? = some ((f y : Nat) : Int) := by
  unfold rowsOfR
  rw [List.getElem?_map, List.getElem?_range hy]; rfl
theorem rowsOfR_getD (f : Nat → Nat) {y : Nat} (hy : y < 24) : (rowsOfR f).getD y 0 = ((f y : Nat) : Int) := by
  simp [List.getD, rowsOfR_at f hy]
theorem field_rows (p : Option Addr) (n c : Nat) (w : World) : (Instr.field 34 (.agg #[.slice p n c]) 0).run Try.prog w = .ok (.slice p n c) w := by
  first | kernel_rfl | rfl | simp [go_sem]
set_option maxRecDepth 100000 in
set_option maxHeartbeats 2000000 in
theorem valid_impl (X : List Int) (n : Nat) (a : Option Addr) (c : Nat) (w : World) (h : RdI w a n X) (hwf : WfI X) (hn : n ≤ 1048577) :
    Calls Try.prog 27 #[.agg #[.slice a n c]] w fun e w' => e = .returned (.bool (goodR X)) ∧ Below w.heap.size w w' := by
  have XA := BoxF.new w [.slice a n c] 34
  have hb := (Below.refl _ w).alloc (Nat.le_refl _) (.cells #[.slice a n c] 34 (0, 0))
  have c1 := XA.one.1
  by_cases h24 : n = 24
  · subst h24
    obtain ⟨b, o, rfl, _, hc⟩ := (h.below hb).2 (by omega)
    have HX := Lib.hid XA
    have HC := Lib.hid (h.below hb)
    have HL := Lib.hid h.1
    have HW := Lib.hid hwf
    have HB := Lib.hid hb
    clear h hwf hb XA hc
    go_enter Try.func27, Try.ntmps27
    go_wp2_with fail
    refine (shield_impl _).mono ?_
    rintro e w1 ⟨g, rfl, ho, hb1⟩
    have HX1 := Lib.hid (HX.out.below hb1)
    have HC1 := Lib.hid (HC.out.below hb1)
    have HB1 := Lib.hid (HB.out.trans (hb1.mono HB.out.size))
    have HS := Lib.hid ho.rd
    clear ho hb1 HX HC HB c1
    have hfld := fun W => field_rows (some ⟨g, 0, none⟩) 24 24 W
    go_wp2_with fail
    clear hfld
    go_loopw [12] (fun i wr => ∃ y : Nat, y ≤ 24 ∧ i = .int .i64 (y : Int) ∧ wr = w1 ∧ ∀ j, j < y → goodRow (shN j) (X.getD j 0) = true) (fun i _ => 24 - (intOf i).toNat)
    case atStart => exact ⟨0, by omega, rfl, rfl, fun j hj => by omega⟩
    case round =>
      obtain ⟨y, hy, rfl, rfl, hall⟩ := hrel
      by_cases hlt : y < 24
      · have ely : decide ((y : Int) < 24) = true := decide_eq_true (by omega)
        obtain ⟨b2, o2, e2, _, hc2⟩ := HS.out.2 (by omega)
        cases e2
        obtain ⟨b3, o3, e3, _, hc3⟩ := HC1.out.2 (by omega)
        cases e3
        have x1 := hc2 y hlt
        rw [rowsOfR_getD shN hlt, Nat.zero_add] at x1
        have x2 := hc3 y hlt
        obtain ⟨A, hA⟩ : ∃ A, X.getD y 0 = A := ⟨_, rfl⟩
        rw [hA] at x2
        have hwA := HW.out A (by rw [← hA]; simp [List.getD, List.getElem?_eq_getElem (show y < X.length by rw [HL.out]; exact hlt)])
        have hz := andNot_zero A (shN y) (shN_lt y) hwA.1 hwA.2
        have c1 := HX1.out.one.1
        have HALL := Lib.hid hall
        clear hc2 hc3 hall
        cases hg : goodRow (shN y) A
        · have hz2 : (bits .andNot .i64 A ((shN y : Nat) : Int) != 0) = true := by rw [bne, hz, hg]; rfl
          have hr := Lib.hid (goodR_no (X := X) hlt (by rw [hA]; exact hg))
          clear hz hg
          go_wp2_with fail
          go_ret
          exact ⟨by rw [hr.out]; rfl, HB1.out⟩
        · have hz2 : (bits .andNot .i64 A ((shN y : Nat) : Int) != 0) = false := by rw [bne, hz, hg]; rfl
          have HG := Lib.hid (show goodRow (shN y) (X.getD y 0) = true by rw [hA]; exact hg)
          clear hz hg
          go_wp2_with fail
          go_roundw
          case rel =>
            refine ⟨y + 1, by omega, by go_num, by first | rfl | trivial, fun j hj => ?_⟩
            by_cases hjy : j = y
            · subst hjy; exact HG.out
            · exact HALL.out j (by omega)
          case measure => simp [intOf]; omega
      · have ely : decide ((y : Int) < 24) = false := decide_eq_false (by omega)
        obtain rfl : y = 24 := by omega
        have hr := Lib.hid (goodR_yes HL.out hall)
        clear hall
        go_wp2_with fail
        go_ret
        exact ⟨by rw [hr.out]; rfl, HB1.out⟩
  · have hr : goodR X = false := by
      unfold goodR
      rw [decide_eq_false (by rw [h.1]; exact h24)]; rfl
    have en : ((n : Int) != 24) = true := by simp; omega
    rw [hr]
    have HB := Lib.hid hb
    clear h hwf hb XA hr h24
    go_enter Try.func27, Try.ntmps27
    go_wp2_with fail
    go_ret
    exact ⟨rfl, HB.out⟩
/-- The region has the cell. -/
def hasB (X : List Int) (x y : Nat) : Bool := (X.getD y 0).toNat.testBit x
def hasZ (X : List Int) (x y : Int) : Bool := decide (0 ≤ x ∧ x ≤ 19) && (decide (0 ≤ y ∧ y ≤ 23) && hasB X x.toNat y.toNat)
theorem bit_and1 (N x : Nat) (hN : N < 1048576) : (bits .and .i64 ((N : Int) / 2 ^ x) 1 == 1) = N.testBit x := by
  have e1 : (N : Int) / 2 ^ x = ((N / 2 ^ x : Nat) : Int) := by simp
  have hd : N / 2 ^ x ≤ N := Nat.div_le_self _ _
  have e2 := i64_and_nat (N / 2 ^ x) 1 (by omega) (by omega)
  rw [e1]
  simp only [Int.natCast_one] at e2
  rw [e2, Nat.and_one_is_mod, Nat.testBit_eq_decide_div_mod_eq]
  have hm := Nat.mod_lt (N / 2 ^ x) (show 0 < 2 by decide)
  rcases (show N / 2 ^ x % 2 = 0 ∨ N / 2 ^ x % 2 = 1 by omega) with h | h <;> rw [h] <;> rfl
set_option maxRecDepth 100000 in
set_option maxHeartbeats 2000000 in
theorem l9Has_in (X : List Int) (a : Option Addr) (c x y N : Nat) (w : World) (h : RdI w a 24 X) (hx : x < 20) (hy : y < 24) (hN : X.getD y 0 = (N : Int)) (hN2 : N < 1048576) :
    Calls Try.prog 39 #[.agg #[.slice a 24 c], .int .i64 (x : Int), .int .i64 (y : Int)] w fun e w' => e = .returned (.bool (hasB X x y)) ∧ Below w.heap.size w w' := by
  have XA := BoxF.new w [.slice a 24 c] 34
  have hb := (Below.refl _ w).alloc (Nat.le_refl _) (.cells #[.slice a 24 c] 34 (0, 0))
  have c1 := XA.one.1
  obtain ⟨b, o, rfl, _, hc⟩ := (h.below hb).2 (by omega)
  have x2 := hc y hy
  rw [hN] at x2
  have CX := Lib.hid (fun W => in_any (x : Int) 0 19 W true (decide_eq_true (by omega)))
  have CY := Lib.hid (fun W => in_any (y : Int) 0 23 W true (decide_eq_true (by omega)))
  have hbit := bit_and1 N x hN2
  rw [show N.testBit x = hasB X x y by unfold hasB; rw [hN]; simp] at hbit
  have HB := Lib.hid hb
  clear h hb XA hc
  go_enter Try.func39, Try.ntmps39
  go_wp2_with fail
  refine (CX.out _).mono ?_
  rintro e w' ⟨rfl, rfl⟩
  go_wp2_with fail
  refine (CY.out _).mono ?_
  rintro e w' ⟨rfl, rfl⟩
  go_wp2_with fail
  go_ret
  exact ⟨by first | rfl | rw [hbit], HB.out⟩
theorem l9Has_out (a : Option Addr) (n c : Nat) (x y : Int) (w : World) (hxy : ¬ ((0 ≤ x ∧ x ≤ 19) ∧ (0 ≤ y ∧ y ≤ 23))) :
    Calls Try.prog 39 #[.agg #[.slice a n c], .int .i64 x, .int .i64 y] w fun e w' => e = .returned (.bool false) ∧ Below w.heap.size w w' := by
  have HB := Lib.hid ((Below.refl _ w).alloc (Nat.le_refl _) (.cells #[.slice a n c] 34 (0, 0)))
  by_cases hx : 0 ≤ x ∧ x ≤ 19
  · have CX := Lib.hid (fun W => in_any x 0 19 W true (decide_eq_true hx))
    have CY := Lib.hid (fun W => in_any y 0 23 W false (decide_eq_false (fun q => hxy ⟨hx, q⟩)))
    clear hxy hx
    go_enter Try.func39, Try.ntmps39
    go_wp2_with fail
    refine (CX.out _).mono ?_
    rintro e w' ⟨rfl, rfl⟩
    go_wp2_with fail
    refine (CY.out _).mono ?_
    rintro e w' ⟨rfl, rfl⟩
    go_wp2_with fail
    go_ret
    exact ⟨rfl, HB.out⟩
  · have CX := Lib.hid (fun W => in_any x 0 19 W false (decide_eq_false hx))
    clear hxy hx
    go_enter Try.func39, Try.ntmps39
    go_wp2_with fail
    refine (CX.out _).mono ?_
    rintro e w' ⟨rfl, rfl⟩
    go_wp2_with fail
    go_ret
    exact ⟨rfl, HB.out⟩
/-- The model's test of a row is the program's. -/
theorem goodRow_bits {y : Nat} {N : Nat} (hN : N < 1048576) : goodRow (shN y) (N : Int) = true ↔ ∀ x, x < 20 → N.testBit x = true → shB x y = true := by
  unfold goodRow
  simp only [Bool.and_eq_true, decide_eq_true_eq, Int.toNat_natCast]
  rw [sub_mask]
  constructor
  · rintro ⟨_, h⟩ x hx hb
    have := h x hb
    unfold shN at this
    rw [rowN_bit] at this
    simp at this; exact this.2
  · intro h
    refine ⟨by omega, fun x hb => ?_⟩
    have hx : x < 20 := by
      rcases Nat.lt_or_ge x 20 with h1 | h1
      · exact h1
      · rw [Nat.testBit_lt_two_pow (Nat.lt_of_lt_of_le (show N < 2 ^ 20 by omega) (Nat.pow_le_pow_right (by omega) h1))] at hb; cases hb
    unfold shN
    rw [rowN_bit]
    simp [hx, h x hx hb]
theorem goodRow_range {y : Nat} {A : Int} (h : goodRow (shN y) A = true) : 0 ≤ A ∧ A ≤ 1048575 := by
  obtain ⟨n, rfl, hn, _⟩ := goodRow_out (shN_lt y) h
  omega
set_option maxRecDepth 100000 in
set_option maxHeartbeats 4000000 in
theorem good_spec (X : List Int) (n : Nat) (a : Option Addr) (c : Nat) (w : World) (h : RdI w a n X) (hn : n ≤ 1048577) :
    Calls Try.prog 24 #[.agg #[.slice a n c]] w fun e w' => e = .returned (.bool (goodR X)) ∧ Below w.heap.size w w' := by
  have XA := BoxF.new w [.slice a n c] 34
  have hb := (Below.refl _ w).alloc (Nat.le_refl _) (.cells #[.slice a n c] 34 (0, 0))
  have c1 := XA.one.1
  by_cases h24 : n = 24
  · subst h24
    have HX0 := Lib.hid XA
    have HR := Lib.hid h
    have HL := Lib.hid h.1
    have HB0 := Lib.hid hb
    clear h hb XA
    go_enter Try.func24, Try.ntmps24
    go_wp2_with fail
    go_loopw [3] (fun i wr => ∃ y : Nat, y ≤ 24 ∧ i = .int .i64 (y : Int) ∧ Hid (BoxF wr w.heap.size [.slice a 24 c] 34) ∧ Hid (Below w.heap.size w wr) ∧ Hid (∀ j, j < y → goodRow (shN j) (X.getD j 0) = true)) (fun i _ => 24 - (intOf i).toNat)
    case atStart => exact ⟨0, by omega, rfl, HX0, HB0, Lib.hid (fun j hj => by omega)⟩
    case round =>
      obtain ⟨y, hy, rfl, HX, HB, HALL⟩ := hrel
      clear HX0 HB0 c1
      by_cases hlt : y < 24
      · have ely : decide ((y : Int) < 24) = true := decide_eq_true (by omega)
        have c1 := HX.out.one.1
        obtain ⟨A, hA⟩ : ∃ A, X.getD y 0 = A := ⟨_, rfl⟩
        have HRw := HR.out.below HB.out
        obtain ⟨b, o, rfl, _, hc⟩ := HRw.2 (by omega)
        have x2 := hc y hlt
        rw [hA] at x2
        by_cases hr : 0 ≤ A ∧ A ≤ 1048575
        · have CR := Lib.hid (fun W => in_any A 0 1048575 W true (decide_eq_true hr))
          obtain ⟨N, rfl⟩ : ∃ N : Nat, A = N := ⟨A.toNat, by omega⟩
          have hN2 : N < 1048576 := by omega
          have HA := Lib.hid hA
          clear hc HRw hr hA
          go_wp2_with fail
          refine (CR.out _).mono ?_
          rintro e w2 ⟨rfl, rfl⟩
          clear CR
          go_wp2_with fail
          go_loopw [4] (fun i wr => ∃ x : Nat, x ≤ 20 ∧ i = .int .i64 (x : Int) ∧ Hid (BoxF wr w.heap.size [.slice (some ⟨b, o, none⟩) 24 c] 34) ∧ Hid (Below w.heap.size w wr) ∧ Hid (∀ j, j < x → N.testBit j = true → shB j y = true)) (fun i _ => 20 - (intOf i).toNat)
          case atStart => exact ⟨0, by omega, rfl, HX, HB, Lib.hid (fun j hj => by omega)⟩
          case round =>
            clear c1 x2 HX HB
            obtain ⟨x, hx, rfl, HX, HB, HIN⟩ := hrel
            by_cases hlx : x < 20
            · have elx : decide ((x : Int) < 20) = true := decide_eq_true (by omega)
              have c1 := HX.out.one.1
              have CH := Lib.hid (l9Has_in X (some ⟨b, o, none⟩) c x y N _ (HR.out.below HB.out) hlx hlt HA.out hN2)
              rw [show hasB X x y = N.testBit x by unfold hasB; rw [HA.out]; simp] at CH
              go_wp2_with fail
              refine CH.out.mono ?_
              rintro e w3 ⟨rfl, hb3⟩
              have HX3 := Lib.hid (HX.out.below hb3)
              have HB3 := Lib.hid (HB.out.trans (hb3.mono HB.out.size))
              clear hb3 HX HB c1 CH
              cases hbt : N.testBit x
              · have HBT := Lib.hid hbt
                clear hbt
                go_wp2_with fail
                go_roundw
                case rel =>
                  refine ⟨x + 1, by omega, by go_num, HX3, HB3, Lib.hid (fun j hj hjb => ?_)⟩
                  by_cases hjx : j = x
                  · subst hjx; rw [HBT.out] at hjb; cases hjb
                  · exact HIN.out j (by omega) hjb
                case measure => simp [intOf]; omega
              · have CI := Lib.hid (fun W => l9In_any (x : Int) (y : Int) W)
                rw [shZ_nat hlx hlt] at CI
                have HBT := Lib.hid hbt
                clear hbt
                cases hs : shB x y
                · rw [hs] at CI
                  have HF := Lib.hid (show goodR X = false from goodR_no hlt (by
                    rw [HA.out]
                    cases hg : goodRow (shN y) ((N : Nat) : Int)
                    · rfl
                    · have := (goodRow_bits hN2).1 hg x hlx HBT.out
                      rw [hs] at this; cases this))
                  clear hs
                  go_wp2_with fail
                  refine (CI.out _).mono ?_
                  rintro e w4 ⟨rfl, rfl⟩
                  go_wp2_with fail
                  go_ret
                  exact ⟨by rw [HF.out]; rfl, HB3.out⟩
                · rw [hs] at CI
                  have HS := Lib.hid hs
                  clear hs
                  go_wp2_with fail
                  refine (CI.out _).mono ?_
                  rintro e w4 ⟨rfl, rfl⟩
                  go_wp2_with fail
                  go_roundw
                  case rel =>
                    refine ⟨x + 1, by omega, by go_num, HX3, HB3, Lib.hid (fun j hj hjb => ?_)⟩
                    by_cases hjx : j = x
                    · subst hjx; exact HS.out
                    · exact HIN.out j (by omega) hjb
                  case measure => simp [intOf]; omega
            · have elx : decide ((x : Int) < 20) = false := decide_eq_false (by omega)
              obtain rfl : x = 20 := by omega
              go_wp2_with fail
              go_roundw
              case rel =>
                refine ⟨y + 1, by omega, by go_num, HX, HB, Lib.hid (fun j hj => ?_)⟩
                by_cases hjy : j = y
                · subst hjy; rw [HA.out]; exact (goodRow_bits hN2).2 HIN.out
                · exact HALL.out j (by omega)
              case measure => simp [intOf]; omega
        · have CR := Lib.hid (fun W => in_any A 0 1048575 W false (decide_eq_false hr))
          have HF := Lib.hid (show goodR X = false from goodR_no hlt (by
            rw [hA]
            cases hg : goodRow (shN y) A
            · rfl
            · exact absurd (goodRow_range hg) hr))
          clear hc HRw hr hA
          go_wp2_with fail
          refine (CR.out _).mono ?_
          rintro e w2 ⟨rfl, rfl⟩
          go_wp2_with fail
          go_ret
          exact ⟨by rw [HF.out]; rfl, HB.out⟩
      · have ely : decide ((y : Int) < 24) = false := decide_eq_false (by omega)
        obtain rfl : y = 24 := by omega
        have hr := Lib.hid (goodR_yes HL.out HALL.out)
        go_wp2_with fail
        go_ret
        exact ⟨by rw [hr.out]; rfl, HB.out⟩
  · have hr : goodR X = false := by
      unfold goodR
      rw [decide_eq_false (by rw [h.1]; exact h24)]; rfl
    have en : ((n : Int) != 24) = true := by simp; omega
    rw [hr]
    have HB := Lib.hid hb
    clear h hb XA hr h24
    go_enter Try.func24, Try.ntmps24
    go_wp2_with fail
    go_ret
    exact ⟨rfl, HB.out⟩
end Go.Proofs.Ythapidnjioindaa
