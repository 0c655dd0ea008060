/- Contracts: a copy of rows, the model's; the columns for boxes, the program's. -/
import Derived.Test.YthapidnjioindaaDoorKLB
import Derived.OwnWalk
import Derived.Laws.OwnMore
import Derived.Deep.AppendLies
namespace Go.Proofs.YthapidnjioindaaDoor
open Go.RowKit

set_option maxRecDepth 100000 in
theorem own24 (X : List Int) (h24 : X.length = 24) (a : Option Addr) (c : Nat) (w : World) (h : RdI w a 24 X) :
    Calls Tryd.prog 95 #[.slice a 24 c] w fun e w' => ∃ g cap : Nat, e = .returned (.slice (some ⟨g, 0, none⟩) 24 cap) ∧ OwnI w' w.heap.size (some ⟨g, 0, none⟩) 24 cap X ∧ Below w.heap.size w w' := by
  obtain ⟨i0, hi, hz0, hz1, hz2⟩ := info_parts infoI
  obtain ⟨b, o, rfl, hlt, hc⟩ := h.2 (by omega)
  have own0 := World.ownsRow_lit (e := 3) (size := 1) w #[] 0 (Nat.le_refl _) (by unfold maxLen; omega) rfl
  have hal := (Below.refl _ w).alloc (Nat.le_refl _) (.cells #[] 3 (0, 0))
  have HC := Lib.hid (show ∀ j u, (X.map (Value.int .i64))[j]? = some u → (w.alloc (.cells #[] 3 (0, 0))).cell? ((⟨b, o, none⟩ : Addr).add j) = some u from fun j u hu => by
    have hj : j < 24 := by have := (List.getElem?_eq_some_iff.1 hu).1; simpa [h24] using this
    have e : (⟨b, o, none⟩ : Addr).add j = ⟨b, o + j, none⟩ := by unfold Addr.add; split <;> simp_all
    rw [e, hal.cell (p := ⟨b, o + j, none⟩) hlt, hc j hj]
    rw [List.getElem?_map, List.getElem?_eq_getElem (by omega)] at hu
    simp only [Option.map_some, Option.some.injEq] at hu
    rw [← hu]
    simp [List.getD, List.getElem?_eq_getElem (show j < X.length by omega)])
  have HO := Lib.hid own0
  have HB := Lib.hid hal
  clear h hc own0 hal
  go_enter Tryd.func95, Tryd.ntmps95
  go_wp2_with (at_builtin; refine wpList_append_own _ rfl _ _ 24 rfl w.heap.size 3 i0 _ 1 8 Tryd.underlying24 hi hz0 hz1 hz2 rfl (by decide) _ _ _ rfl HO.out ⟨b, o, none⟩ 24 c (X.map (Value.int .i64)) rfl (by simp [h24]) HC.out (fun u hu => by obtain ⟨z, _, rfl⟩ := List.mem_map.1 hu; rfl) (by unfold maxLen; omega) (by omega) (by simp) ?_; intro v' w1 hown hgrow hnil)
  obtain ⟨g, cap, rfl, _⟩ := World.ownsRow.form hown (by omega)
  have HO1 := Lib.hid (show OwnI w1 w.heap.size (some ⟨g, 0, none⟩) 24 cap X from by unfold OwnI; simpa using hown)
  have HB1 := Lib.hid (HB.out.grown hgrow HB.out.size (fun q hq => by cases hq; exact Nat.le_refl _))
  clear hown hgrow hnil HO HB HC
  go_ret
  exact ⟨g, cap, rfl, HO1.out, HB1.out⟩

theorem comm_step {F : Nat → Nat} {y k : Nat} (h0 : F y < 1048576) (h : F (y + (k + 1)) < 1048576) : bits .and .i64 ((commN F y k : Nat) : Int) ((F (y + (k + 1)) : Nat) : Int) = ((commN F y (k + 1) : Nat) : Int) := by
  have := commN_lt h0 k
  rw [i64_and_nat _ _ (by omega) (by omega)]; rfl
theorem col_step {C s : Nat} (hC : C < 1048576) (hs : 1 ≤ s) : bits .and .i64 ((colN C (s - 1) : Nat) : Int) ((C : Int) / 2 ^ s) = ((colN C s : Nat) : Int) := by
  obtain ⟨k, rfl⟩ : ∃ k, s = k + 1 := ⟨s - 1, by omega⟩
  have e1 : (C : Int) / 2 ^ (k + 1) = ((C / 2 ^ (k + 1) : Nat) : Int) := by simp
  have := colN_lt hC k
  have hd : C / 2 ^ (k + 1) ≤ C := Nat.div_le_self _ _
  rw [e1, Nat.add_sub_cancel, i64_and_nat _ _ (by omega) (by omega)]; rfl
set_option maxRecDepth 100000 in
set_option maxHeartbeats 4000000 in
theorem cols_any (F : Nat → Nat) (b o n c y : Nat) (w : World) (hc : ∀ j, j < n → w.cell? ⟨b, o + j, none⟩ = some (.int .i64 ((F (y + j) : Nat) : Int))) (hF : ∀ j, j < n → F (y + j) < 1048576) (hn1 : 1 ≤ n) (hn8 : n ≤ 8) (hcap : n ≤ c) :
    Calls Tryd.prog 53 #[.slice (some ⟨b, o, none⟩) n c, .int .i64 (n : Int)] w fun e w' => e = .returned (.int .i64 ((colsN F y n : Nat) : Int)) ∧ w = w' := by
  have c0 := hc 0 (by omega)
  have F0 := hF 0 (by omega)
  rw [Nat.add_zero] at c0 F0
  have HC := Lib.hid hc
  have HF := Lib.hid hF
  clear hc hF
  have hcols : colsN F y n = colN (commN F y (n - 1)) (n - 1) := rfl
  rw [hcols]
  have CL := commN_lt F0 (n - 1)
  clear hcols
  have tail : ∀ Cm : Nat, True := fun _ => trivial
  clear tail
  rcases (show n = 1 ∨ 2 ≤ n by omega) with rfl | hn2
  · go_enter Tryd.func53, Tryd.ntmps53
    go_wp2_with fail
    all_goals
      refine wp_loop_rounds 1 ?_
      rw [rounds_succ]
      go_wp2_with fail
      refine wp_loop_rounds 1 ?_
      rw [rounds_succ]
      go_wp2_with fail
      go_ret
      exact ⟨rfl, rfl⟩
  · have ec : c ≠ 1 := by omega
    have e0 : commN F y 0 = F y := rfl
    go_enter Tryd.func53, Tryd.ntmps53
    go_wp2_with fail
    go_loopw [5, 16] (fun v i wr => ∃ k : Nat, k + 1 ≤ n ∧ i = .int .i64 (k : Int) ∧ v = .int .i64 ((commN F y k : Nat) : Int) ∧ wr = w) (fun _ i _ => n - (intOf i).toNat)
    case atStart => exact ⟨0, by omega, rfl, rfl, rfl⟩
    case round =>
      obtain ⟨k, hk, rfl, rfl, rfl⟩ := hrel
      by_cases hlt : k + 1 < n
      · have x1 := HC.out (k + 1) hlt
        have x2 := HF.out (k + 1) hlt
        have hs := comm_step F0 x2
        rw [show o + (k + 1) = o + 1 + k by omega] at x1
        obtain ⟨M, hM⟩ : ∃ M, commN F y (k + 1) = M := ⟨_, rfl⟩
        rw [hM] at hs
        have HM := Lib.hid hM
        generalize F (y + (k + 1)) = N at x1 x2 hs
        generalize commN F y k = K0 at hs ⊢
        clear hM CL
        go_wp2_with fail
        go_roundw
        case rel => exact ⟨k + 1, by omega, by go_num, by rw [HM.out], by first | rfl | trivial⟩
        case measure => simp [intOf]; omega
      · obtain rfl : n = k + 1 := by omega
        rw [Nat.add_sub_cancel] at CL
        have HE := Lib.hid (show colN (commN F y (k + 1 - 1)) (k + 1 - 1) = colN (commN F y k) k by rw [Nat.add_sub_cancel])
        generalize commN F y k = C at *
        clear c0 F0
        go_wp2_with fail
        go_loopw [8, 9] (fun v i wx => ∃ s : Nat, 1 ≤ s ∧ s ≤ k + 1 ∧ i = .int .i64 (s : Int) ∧ v = .int .i64 ((colN C (s - 1) : Nat) : Int) ∧ wx = wr) (fun _ i _ => k + 1 - (intOf i).toNat)
        case atStart => exact ⟨1, by omega, by omega, rfl, rfl, rfl⟩
        case round =>
          obtain ⟨s, hs1, hs2, rfl, rfl, rfl⟩ := hrel
          by_cases hl2 : s < k + 1
          · have hst := col_step CL hs1
            obtain ⟨M, hM⟩ : ∃ M, colN C s = M := ⟨_, rfl⟩
            rw [hM] at hst
            have HM := Lib.hid (show colN C (s + 1 - 1) = M by rw [Nat.add_sub_cancel]; exact hM)
            clear hM
            generalize colN C (s - 1) = K1 at *
            go_wp2_with fail
            go_roundw
            case rel => exact ⟨s + 1, by omega, by omega, by go_num, by rw [HM.out], by first | rfl | trivial⟩
            case measure => simp [intOf]; omega
          · obtain rfl : s = k + 1 := by omega
            rw [Nat.add_sub_cancel]
            generalize colN C k = K1 at *
            go_wp2_with fail
            go_ret
            exact ⟨by rw [HE.out] <;> rfl, rfl⟩
end Go.Proofs.YthapidnjioindaaDoor
