/- Contracts of the model's chapter 10: offsets, periods, turns, parts and ordinaries with a line. -/
import Derived.Test.YtkhpgggaaldhhaaDoorC10M
import Derived.Test.YtkhpgggaaldhhaaDoorFields2
import Derived.Deep.RegionHeld3
namespace Go.Proofs.YtkhpgggaaldhhaaDoor
open Go.RowKit

theorem l10Line_any (x : Int) (w : World) (p : Bool) (hp : decide (0 ≤ x ∧ x ≤ 4) = p) :
    Calls Tryd.prog 50 #[.int .i64 x] w fun e w' => e = .returned (.bool p) ∧ w = w' := by
  have C := Lib.hid (fun W => in_any x 0 4 W p hp)
  clear hp
  go_enter Tryd.func50, Tryd.ntmps50
  go_wp2_with fail
  refine (C.out _).mono ?_
  rintro e w' ⟨rfl, rfl⟩
  go_wp2_with fail
  go_ret
  exact ⟨rfl, rfl⟩
theorem l10Offsets_any (l : Int) (w : World) (h0 : 0 ≤ l) (h1 : l ≤ 4) :
    Calls Tryd.prog 53 #[.int .i64 l] w (AnsL w (offL l)) := by
  have hl : l = 0 ∨ l = 1 ∨ l = 2 ∨ l = 3 ∨ l = 4 := by omega
  rcases hl with rfl | rfl | rfl | rfl | rfl
  · rw [offL_0]
    go_enter Tryd.func53, Tryd.ntmps53
    go_wp2_with fail
    go_ret
    exact ansL_lit w [0] (by decide)
  · rw [offL_1]
    go_enter Tryd.func53, Tryd.ntmps53
    go_wp2_with fail
    go_ret
    exact ansL_lit w [0, 1, 1, 0] (by decide)
  · rw [offL_2]
    go_enter Tryd.func53, Tryd.ntmps53
    go_wp2_with fail
    go_ret
    exact ansL_lit w [0, 1, 1, 0, 0, -1, -1, 0] (by decide)
  · rw [offL_3]
    go_enter Tryd.func53, Tryd.ntmps53
    go_wp2_with fail
    go_ret
    exact ansL_lit w [0, 0, 2, 2] (by decide)
  · rw [offL_4]
    go_enter Tryd.func53, Tryd.ntmps53
    go_wp2_with fail
    go_ret
    exact ansL_lit w [0, 1, 2, 1] (by decide)
theorem l10Offset_any (l : Int) (t : Nat) (w : World) (h0 : 0 ≤ l) (h1 : l ≤ 4) (ht : t ≤ 100000) :
    Calls Tryd.prog 52 #[.int .i64 l, .int .i64 (t : Int)] w fun e w' => e = .returned (.int .i64 (offZ l t)) ∧ Below w.heap.size w w' := by
  have C := Lib.hid (fun W => l10Offsets_any l W h0 h1)
  have hat := offZ_at l t
  have hp := offL_pos l
  have hle := offL_le l
  unfold AnsL at C
  obtain ⟨X, hX⟩ : ∃ X, offL l = X := ⟨_, rfl⟩
  obtain ⟨z, hz⟩ : ∃ z, offZ l t = z := ⟨_, rfl⟩
  rw [hz] at hat ⊢
  rw [hX] at C hat hp hle
  obtain ⟨N, hN⟩ : ∃ N, X.length = N := ⟨_, rfl⟩
  rw [hN] at C hat hp hle
  have HL := Lib.hid hN
  clear hX hz hN h0 h1
  go_enter Tryd.func52, Tryd.ntmps52
  go_wp2_with fail
  refine (C.out _).mono ?_
  rintro e w1 ⟨a, c, rfl, ho, hb⟩
  have hm : t % N < N := Nat.mod_lt t hp
  obtain ⟨b, o, rfl, hlt, hc⟩ := ho.rd.2 hp
  have hc1 := rdI_at hc hm hat
  have em : ((t : Int)).tmod (N : Int) = ((t % N : Nat) : Int) := by rw [Int.tmod_eq_emod_of_nonneg (by omega)]; omega
  have HB := Lib.hid hb
  clear hc ho hb hlt hat C HL
  go_wp2_with fail
  go_ret
  exact ⟨rfl, HB.out⟩
/-- The numbers l and t are a line and a place of it. -/
def okOff (l t : Int) : Bool := decide (0 ≤ l ∧ l ≤ 4) && decide (0 ≤ t ∧ t ≤ 1000)
theorem lineOff_spec (l t : Int) (w : World) :
    Calls Tryd.prog 16 #[.int .i64 l, .int .i64 t] w fun e w' => e = .returned (.tuple #[.int .i64 (if okOff l t then offZ l t.toNat else 0), .bool (okOff l t)]) ∧ Below w.heap.size w w' := by
  unfold okOff
  obtain ⟨p1, e1⟩ : ∃ p, decide (0 ≤ l ∧ l ≤ 4) = p := ⟨_, rfl⟩
  obtain ⟨p2, e2⟩ : ∃ p, decide (0 ≤ t ∧ t ≤ 1000) = p := ⟨_, rfl⟩
  have CL := Lib.hid (fun W => l10Line_any l W p1 e1)
  have CT := Lib.hid (fun W => in_any t 0 1000 W p2 e2)
  rw [e1, e2]
  cases p1
  · clear e1 e2
    go_enter Tryd.func16, Tryd.ntmps16
    go_wp2_with fail
    refine (CL.out _).mono ?_
    rintro e w' ⟨rfl, rfl⟩
    go_wp2_with fail
    go_ret2
    exact ⟨by first | rfl | simp, Below.refl _ _⟩
  cases p2
  · clear e1 e2
    go_enter Tryd.func16, Tryd.ntmps16
    go_wp2_with fail
    refine (CL.out _).mono ?_
    rintro e w' ⟨rfl, rfl⟩
    go_wp2_with fail
    refine (CT.out _).mono ?_
    rintro e w' ⟨rfl, rfl⟩
    go_wp2_with fail
    go_ret2
    exact ⟨by first | rfl | simp, Below.refl _ _⟩
  have h1 := of_decide_eq_true e1
  have h2 := of_decide_eq_true e2
  obtain ⟨k, rfl⟩ : ∃ k : Nat, t = k := ⟨t.toNat, by omega⟩
  have CO := Lib.hid (fun W => l10Offset_any l k W h1.1 h1.2 (by omega))
  simp only [Int.toNat_natCast, Bool.and_self, if_true]
  generalize offZ l k = z at *
  clear e1 e2 h1 h2
  go_enter Tryd.func16, Tryd.ntmps16
  go_wp2_with fail
  refine (CL.out _).mono ?_
  rintro e w' ⟨rfl, rfl⟩
  go_wp2_with fail
  refine (CT.out _).mono ?_
  rintro e w' ⟨rfl, rfl⟩
  go_wp2_with fail
  refine (CO.out _).mono ?_
  rintro e w1 ⟨rfl, hb⟩
  go_wp2_with fail
  go_ret2
  exact ⟨rfl, hb⟩
theorem period_spec (l : Int) (w : World) :
    Calls Tryd.prog 18 #[.int .i64 l] w fun e w' => e = .returned (.tuple #[.int .i64 (if decide (0 ≤ l ∧ l ≤ 4) then ((offL l).length : Int) else 0), .bool (decide (0 ≤ l ∧ l ≤ 4))]) ∧ Below w.heap.size w w' := by
  obtain ⟨p1, e1⟩ : ∃ p, decide (0 ≤ l ∧ l ≤ 4) = p := ⟨_, rfl⟩
  have CL := Lib.hid (fun W => l10Line_any l W p1 e1)
  rw [e1]
  cases p1
  · clear e1
    go_enter Tryd.func18, Tryd.ntmps18
    go_wp2_with fail
    refine (CL.out _).mono ?_
    rintro e w' ⟨rfl, rfl⟩
    go_wp2_with fail
    go_ret2
    exact ⟨by first | rfl | simp, Below.refl _ _⟩
  have h1 := of_decide_eq_true e1
  have CO := Lib.hid (fun W => l10Offsets_any l W h1.1 h1.2)
  unfold AnsL at CO
  simp only [if_true]
  generalize offL l = X at *
  generalize X.length = N at *
  clear e1 h1
  go_enter Tryd.func18, Tryd.ntmps18
  go_wp2_with fail
  refine (CL.out _).mono ?_
  rintro e w' ⟨rfl, rfl⟩
  go_wp2_with fail
  refine (CO.out _).mono ?_
  rintro e w1 ⟨a, c, rfl, ho, hb⟩
  clear ho
  go_wp2_with fail
  go_ret2
  exact ⟨rfl, hb⟩
/-- The numbers l and n are a line and a number of places. -/
def okTurn (l n : Int) : Bool := decide (0 ≤ l ∧ l ≤ 4) && decide (1 ≤ n ∧ n ≤ 1000)
theorem turns_spec (l n : Int) (w : World) :
    Calls Tryd.prog 28 #[.int .i64 l, .int .i64 n] w fun e w' => e = .returned (.tuple #[.int .i64 (if okTurn l n then (turnZ l (n.toNat - 1) : Int) else 0), .bool (okTurn l n)]) ∧ Below w.heap.size w w' := by
  unfold okTurn
  obtain ⟨p1, e1⟩ : ∃ p, decide (0 ≤ l ∧ l ≤ 4) = p := ⟨_, rfl⟩
  obtain ⟨p2, e2⟩ : ∃ p, decide (1 ≤ n ∧ n ≤ 1000) = p := ⟨_, rfl⟩
  have CL := Lib.hid (fun W => l10Line_any l W p1 e1)
  have CT := Lib.hid (fun W => in_any n 1 1000 W p2 e2)
  rw [e1, e2]
  cases p1
  · clear e1 e2
    go_enter Tryd.func28, Tryd.ntmps28
    go_wp2_with fail
    refine (CL.out _).mono ?_
    rintro e w' ⟨rfl, rfl⟩
    go_wp2_with fail
    go_ret2
    exact ⟨by first | rfl | simp, Below.refl _ _⟩
  cases p2
  · clear e1 e2
    go_enter Tryd.func28, Tryd.ntmps28
    go_wp2_with fail
    refine (CL.out _).mono ?_
    rintro e w' ⟨rfl, rfl⟩
    go_wp2_with fail
    refine (CT.out _).mono ?_
    rintro e w' ⟨rfl, rfl⟩
    go_wp2_with fail
    go_ret2
    exact ⟨by first | rfl | simp, Below.refl _ _⟩
  have h1 := of_decide_eq_true e1
  have h2 := Lib.hid (of_decide_eq_true e2)
  simp only [Bool.and_self, if_true]
  have CO := Lib.hid (fun (k : Nat) (hk : k ≤ 1000) W => l10Offset_any l k W h1.1 h1.2 (by omega))
  clear e1 e2 h1
  go_enter Tryd.func28, Tryd.ntmps28
  go_wp2_with fail
  refine (CL.out _).mono ?_
  rintro e w' ⟨rfl, rfl⟩
  go_wp2_with fail
  refine (CT.out _).mono ?_
  rintro e w' ⟨rfl, rfl⟩
  go_wp2_with fail
  go_loopw [6, 7] (fun s i wr => ∃ t : Nat, 1 ≤ t ∧ (t : Int) ≤ n ∧ i = .int .i64 (t : Int) ∧ s = .int .i64 (turnZ l (t - 1) : Int) ∧ Hid (Below w.heap.size w wr)) (fun _ i _ => 1001 - (intOf i).toNat)
  case atStart => exact ⟨1, by omega, by have := h2.out; omega, rfl, rfl, Lib.hid (Below.refl _ _)⟩
  case round =>
    obtain ⟨t, ht1, htn, rfl, rfl, HB⟩ := hrel
    obtain ⟨k, rfl⟩ : ∃ k, t = k + 1 := ⟨t - 1, by omega⟩
    have hk9 : k + 1 ≤ 1000 := by have := h2.out; omega
    simp only [Nat.add_sub_cancel]
    obtain ⟨T, hT9⟩ : ∃ T, k + 1 = T := ⟨_, rfl⟩
    rw [hT9] at hk9 ht1 htn ⊢
    by_cases hlt : (T : Int) < n
    · have el : decide ((T : Int) < n) = true := decide_eq_true hlt
      have ek : (T : Int) - 1 = (k : Int) := by omega
      have C1 := Lib.hid (CO.out T (by omega))
      have C2 := Lib.hid (CO.out k (by omega))
      have hst : turnZ l T = turnZ l k + if offZ l T = offZ l k then 0 else 1 := by rw [← hT9]; rfl
      have hle := turnZ_le l k
      have HST := Lib.hid hst
      have hTk := Lib.hid hT9
      obtain ⟨z1, hz1⟩ : ∃ z, offZ l T = z := ⟨_, rfl⟩
      obtain ⟨z2, hz2⟩ : ∃ z, offZ l k = z := ⟨_, rfl⟩
      obtain ⟨tk, htk⟩ : ∃ z, turnZ l k = z := ⟨_, rfl⟩
      rw [hz1] at C1 HST
      rw [hz2] at C2 HST
      rw [htk] at HST hle ⊢
      have hk8 : k ≤ 1000 := by omega
      clear hst hz1 hz2 hT9 htk
      go_wp2_with fail
      refine (C1.out _).mono ?_
      rintro e w1 ⟨rfl, hb1⟩
      have HB1 := Lib.hid (HB.out.trans (hb1.mono HB.out.size))
      clear hb1 HB
      go_wp2_with fail
      refine (C2.out _).mono ?_
      rintro e w2 ⟨rfl, hb2⟩
      have HB2 := Lib.hid (HB1.out.trans (hb2.mono HB1.out.size))
      clear hb2 HB1
      by_cases hz : z1 = z2
      · have ez : (z1 != z2) = false := by simp [hz]
        have HT := Lib.hid (HST.out.trans (if_pos hz ▸ rfl : _ = tk + 0))
        clear HST hz
        go_wp2_with fail
        go_roundw
        case rel => exact ⟨T + 1, by omega, by omega, by go_num, by rw [Nat.add_sub_cancel, HT.out]; rfl, HB2⟩
        case measure => simp [intOf]; omega
      · have ez : (z1 != z2) = true := by simp [hz]
        have HT := Lib.hid (HST.out.trans (if_neg hz ▸ rfl : _ = tk + 1))
        clear HST hz
        go_wp2_with fail
        go_roundw
        case rel => exact ⟨T + 1, by omega, by omega, by go_num, by rw [Nat.add_sub_cancel, HT.out]; go_num, HB2⟩
        case measure => simp [intOf]; omega
    · have el : decide ((T : Int) < n) = false := decide_eq_false hlt
      have hTn : (T : Int) = n := by omega
      have hn9 : n.toNat - 1 = k := by omega
      go_wp2_with fail
      go_ret2
      exact ⟨by first | rfl | rw [hn9], HB.out⟩
end Go.Proofs.YtkhpgggaaldhhaaDoor
