/- Contracts: whether a box is valid and whether it lies in a region, of both sides. -/
import Derived.Test.YthapidnjioindaaC11Q
namespace Go.Proofs.Ythapidnjioindaa
open Go.RowKit

/-! The model. -/
def allN : Nat → Nat := fun _ => 1048575
def fillN (k : Nat) : Nat → Nat := fun j => if j < k then 1048575 else 0
theorem fillN_zero : rowsOfR (fillN 0) = List.replicate 24 0 := by
  apply List.eq_replicate_iff.2
  refine ⟨by simp [rowsOfR], fun b hb => ?_⟩
  unfold rowsOfR at hb
  obtain ⟨j, _, rfl⟩ := List.mem_map.1 hb
  simp [fillN]
theorem fillN_set {k : Nat} (hk : k < 24) : (rowsOfR (fillN k)).set k 1048575 = rowsOfR (fillN (k + 1)) := by
  have h := rows_set (fillN k) hk 1048575
  refine h.trans ?_
  congr 1
  funext i
  unfold fillN
  by_cases e : i = k
  · subst e; rw [if_pos rfl, if_pos (by omega)]
  · rw [if_neg e]
    by_cases h : i < k
    · rw [if_pos h, if_pos (by omega)]
    · rw [if_neg h, if_neg (by omega)]
theorem fillN_all : rowsOfR (fillN 24) = rowsOfR allN := by
  unfold rowsOfR
  apply List.map_congr_left
  intro j hj
  rw [List.mem_range] at hj
  unfold fillN allN
  rw [if_pos hj]
set_option maxHeartbeats 1000000 in
theorem l11All_any (w : World) : Calls Try.prog 36 #[] w fun e w' => ∃ g : Nat, e = .returned (.slice (some ⟨g, 0, none⟩) 24 24) ∧ OwnI w' w.heap.size (some ⟨g, 0, none⟩) 24 24 (rowsOfR allN) ∧ Below w.heap.size w w' := by
  obtain ⟨i0, hi, hz0, hz1, hz2⟩ := info_parts infoI
  go_enter Try.func36, Try.ntmps36
  go_wp2_with (at_make; refine wpList_make_full _ rfl _ _ 28 rfl w.heap.size 3 i0 (.int .i64 0) 1 Try.underlying28 hi hz0 hz1 .i64 .i64 24 24 24 rfl rfl rfl rfl (by rw [hz2]; omega) (by unfold maxLen; omega) (Nat.le_refl _) ?_; intro w1 hown1 hgr1)
  have hfil : OwnI w1 w.heap.size (some ⟨w.heap.size, 0, none⟩) 24 24 (rowsOfR (fillN 0)) := by
    rw [fillN_zero]
    unfold OwnI
    rw [List.map_replicate, ← toList_madeCells_one]
    rw [Nat.mul_one] at hown1
    exact hown1
  have HO := Lib.hid hfil
  have HB := Lib.hid ((Below.refl w.heap.size w).grown hgr1 (Nat.le_refl _) (by simp))
  clear hown1 hgr1 hfil
  go_loopw [2] (fun i wr => ∃ k : Nat, k ≤ 24 ∧ i = .int .i64 k ∧ Hid (OwnI wr w.heap.size (some ⟨w.heap.size, 0, none⟩) 24 24 (rowsOfR (fillN k))) ∧ Hid (Below w.heap.size w wr)) (fun i _ => 24 - (intOf i).toNat)
  case atStart => exact ⟨0, by omega, rfl, HO, HB⟩
  case round =>
    clear HO HB
    obtain ⟨k, hk, rfl, HO, HB⟩ := hrel
    by_cases hlt : k < 24
    · have elt : decide ((k : Int) < 24) = true := decide_eq_true (by omega)
      have hc1 := HO.out.cellAt k hlt
      rw [List.getElem?_map, rowsOfR_at _ hlt] at hc1
      simp only [Option.map_some] at hc1
      have hf1 := HO.out.frozenAt k
      have HST := Lib.hid (HO.out.stored k (.int .i64 1048575))
      have HM := Lib.hid (fillN_set hlt)
      go_wp2_with fail
      go_roundw
      case rel => exact ⟨k + 1, by omega, by go_num, Lib.hid (by rw [← HM.out]; unfold OwnI; rw [List.map_set]; exact HST.out.1), Lib.hid (HB.out.grown HST.out.2 HB.out.size (fun q hq => by cases hq; omega))⟩
      case measure => simp [intOf]; omega
    · have elt : decide ((k : Int) < 24) = false := decide_eq_false (by omega)
      obtain rfl : k = 24 := by omega
      go_wp2_with fail
      go_ret
      exact ⟨_, rfl, by have h := HO.out; rw [fillN_all] at h; exact h, HB.out⟩

theorem bit_and0 (N x : Nat) (hN : N < 1048576) : (bits .and .i64 ((N : Int) / 2 ^ x) 1 == 0) = !N.testBit x := by
  have h := bit_and1 N x hN
  have e1 : (N : Int) / 2 ^ x = ((N / 2 ^ x : Nat) : Int) := by simp
  have hd : N / 2 ^ x ≤ N := Nat.div_le_self _ _
  have e2 := i64_and_nat (N / 2 ^ x) 1 (by omega) (by omega)
  rw [e1] at h ⊢
  simp only [Int.natCast_one] at e2
  rw [e2, Nat.and_one_is_mod] at h ⊢
  have hm := Nat.mod_lt (N / 2 ^ x) (show 0 < 2 by decide)
  rw [← h]
  rcases (show N / 2 ^ x % 2 = 0 ∨ N / 2 ^ x % 2 = 1 by omega) with h | h <;> rw [h] <;> rfl
/-- Row by row: the first j rows of the square are such, and i cells of the next. -/
def upto (p : Nat → Nat → Bool) (x y n j i : Nat) : Prop := (∀ j', j' < j → ∀ i', i' < n → p (x + i') (y + j') = true) ∧ ∀ i', i' < i → p (x + i') (y + j) = true
set_option maxRecDepth 100000 in
set_option maxHeartbeats 4000000 in
theorem l11Whole_any (F : Nat → Nat) (x y n : Nat) (a : Option Addr) (c : Nat) (w : World) (h : RdI w a 24 (rowsOfR F)) (hF : ∀ j, j < 24 → F j < 1048576) (hx : x < 20) (hy : y < 24) (hn : n ≤ 8) :
    Calls Try.prog 25 #[.agg #[.int .i64 (x : Int), .int .i64 (y : Int), .int .i64 (n : Int)], .slice a 24 c] w fun e w' => e = .returned (.bool (whole (cellF F) x y n)) ∧ Below w.heap.size w w' := by
  have XA := BoxF.new w [.int .i64 (x : Int), .int .i64 (y : Int), .int .i64 (n : Int)] 25
  have hb := (Below.refl _ w).alloc (Nat.le_refl _) (.cells #[.int .i64 (x : Int), .int .i64 (y : Int), .int .i64 (n : Int)] 25 (0, 0))
  have HX0 := Lib.hid XA
  have HB0 := Lib.hid hb
  have HR := Lib.hid h
  have HF := Lib.hid hF
  clear h hb XA hF
  have d1 := HX0.out.at 1
  simp only [List.getElem?_cons_zero, List.getElem?_cons_succ] at d1
  go_enter Try.func25, Try.ntmps25
  go_wp2_with fail
  clear d1
  go_loopw [5] (fun i wr => ∃ j : Nat, j ≤ n ∧ i = .int .i64 ((y : Int) + (j : Int)) ∧ Hid (BoxF wr w.heap.size [.int .i64 (x : Int), .int .i64 (y : Int), .int .i64 (n : Int)] 25) ∧ Hid (Below w.heap.size w wr) ∧ Hid (upto (cellF F) x y n j 0)) (fun i _ => y + n - (intOf i).toNat)
  case atStart => exact ⟨0, by omega, by simp, HX0, HB0, Lib.hid ⟨fun j hj => by omega, fun i hi => by omega⟩⟩
  case round =>
    clear HX0 HB0
    obtain ⟨j, hj, rfl, HX, HB, HU⟩ := hrel
    have d0 := HX.out.at 0
    have d1 := HX.out.at 1
    have d2 := HX.out.at 2
    simp only [List.getElem?_cons_zero, List.getElem?_cons_succ] at d0 d1 d2
    by_cases hlt : j < n
    · have ely : decide ((y : Int) + (j : Int) < (y : Int) + (n : Int)) = true := decide_eq_true (by omega)
      go_wp2_with fail
      clear d0 d1 d2
      go_loopw [6] (fun i wr => ∃ k : Nat, k ≤ n ∧ i = .int .i64 ((x : Int) + (k : Int)) ∧ Hid (BoxF wr w.heap.size [.int .i64 (x : Int), .int .i64 (y : Int), .int .i64 (n : Int)] 25) ∧ Hid (Below w.heap.size w wr) ∧ Hid (upto (cellF F) x y n j k)) (fun i _ => x + n - (intOf i).toNat)
      case atStart => exact ⟨0, by omega, by simp, HX, HB, HU⟩
      case round =>
        clear HX HB HU
        obtain ⟨k, hk, rfl, HX, HB, HU⟩ := hrel
        have d0 := HX.out.at 0
        have d1 := HX.out.at 1
        have d2 := HX.out.at 2
        simp only [List.getElem?_cons_zero, List.getElem?_cons_succ] at d0 d1 d2
        by_cases hlk : k < n
        · have elx : decide ((x : Int) + (k : Int) < (x : Int) + (n : Int)) = true := decide_eq_true (by omega)
          have CI := Lib.hid (fun W => l9In_any ((x : Int) + (k : Int)) ((y : Int) + (j : Int)) W)
          obtain ⟨z, hz⟩ : ∃ z, shZ ((x : Int) + (k : Int)) ((y : Int) + (j : Int)) = z := ⟨_, rfl⟩
          rw [hz] at CI
          cases z
          · have HW := Lib.hid (show whole (cellF F) x y n = false from whole_no hlt hlk (by unfold cellF; rw [show ((x + k : Nat) : Int) = (x : Int) + (k : Int) by omega, show ((y + j : Nat) : Int) = (y : Int) + (j : Int) by omega, hz]; rfl))
            clear hz
            go_wp2_with fail
            refine (CI.out _).mono ?_
            rintro e w2 ⟨rfl, rfl⟩
            go_wp2_with fail
            go_ret
            exact ⟨by rw [HW.out] <;> rfl, HB.out⟩
          · have hin : x + k < 20 ∧ y + j < 24 := by
              unfold shZ at hz
              simp only [Bool.and_eq_true, decide_eq_true_eq] at hz
              omega
            obtain ⟨hxk, hyj⟩ := hin
            obtain ⟨b, o, rfl, _, hc⟩ := (HR.out.below HB.out).2 (by omega)
            have x2 := hc (y + j) hyj
            rw [rowsOfR_getD F hyj] at x2
            have hN := HF.out (y + j) hyj
            have hbit := bit_and0 (F (y + j)) (x + k) hN
            have HZ := Lib.hid hz
            clear hc hz
            cases ht : (F (y + j)).testBit (x + k)
            · rw [ht] at hbit
              have HW := Lib.hid (show whole (cellF F) x y n = false from whole_no hlt hlk (by unfold cellF; rw [ht]; simp))
              clear ht
              generalize F (y + j) = N at *
              go_wp2_with fail
              refine (CI.out _).mono ?_
              rintro e w2 ⟨rfl, rfl⟩
              go_wp2_with fail
              go_ret
              exact ⟨by rw [HW.out] <;> rfl, HB.out⟩
            · rw [ht] at hbit
              have HC := Lib.hid (show cellF F (x + k) (y + j) = true by unfold cellF; rw [show ((x + k : Nat) : Int) = (x : Int) + (k : Int) by omega, show ((y + j : Nat) : Int) = (y : Int) + (j : Int) by omega, HZ.out, ht]; rfl)
              clear ht
              generalize F (y + j) = N at *
              go_wp2_with fail
              refine (CI.out _).mono ?_
              rintro e w2 ⟨rfl, rfl⟩
              go_wp2_with fail
              go_roundw
              case rel =>
                refine ⟨k + 1, by omega, by go_num, HX, HB, Lib.hid ⟨HU.out.1, fun i hi => ?_⟩⟩
                by_cases e : i = k
                · rw [e]; exact HC.out
                · exact HU.out.2 i (by omega)
              case measure => simp [intOf]; omega
        · have elx : decide ((x : Int) + (k : Int) < (x : Int) + (n : Int)) = false := decide_eq_false (by omega)
          obtain rfl : k = n := by omega
          go_wp2_with fail
          go_roundw
          case rel =>
            refine ⟨j + 1, by omega, by go_num, HX, HB, Lib.hid ⟨fun j' hj' => ?_, fun i hi => by omega⟩⟩
            by_cases e : j' = j
            · rw [e]; exact HU.out.2
            · exact HU.out.1 j' (by omega)
          case measure => simp [intOf]; omega
    · have ely : decide ((y : Int) + (j : Int) < (y : Int) + (n : Int)) = false := decide_eq_false (by omega)
      obtain rfl : j = n := by omega
      have HW := Lib.hid (show whole (cellF F) x y j = true from whole_iff.2 HU.out.1)
      go_wp2_with fail
      go_ret
      exact ⟨by rw [HW.out]; rfl, HB.out⟩
end Go.Proofs.Ythapidnjioindaa
