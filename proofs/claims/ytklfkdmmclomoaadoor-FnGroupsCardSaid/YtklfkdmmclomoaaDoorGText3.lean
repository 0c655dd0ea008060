/- Contracts: the model's texts of valid groups, and its words of kinds. -/
import Derived.Test.YtklfkdmmclomoaaDoorGText2
namespace Go.Proofs.YtklfkdmmclomoaaDoor
open Go.RowKit

theorem l4Bare_any (c k a t : Int) (w : World) (h : gOkB c k a t = true ∨ (gOkB c k a 1 = true)) :
    Calls Tryd.prog 84 #[.agg #[.int .i64 c, .int .i64 k, .int .i64 a, .int .i64 t]] w fun e w' => e = .returned (.string (bareN c.toNat k.toNat a.toNat)) ∧ Below w.heap.size w w' := by
  have h1 : (1 ≤ c ∧ c ≤ 6) ∧ (1 ≤ k ∧ k ≤ 8) ∧ ((k ≤ 3 ∧ 1 ≤ a ∧ a ≤ 2) ∨ (3 < k ∧ a = 0)) := by
    rcases h with h | h
    · have := gOk_out h; exact ⟨this.1, this.2.1, this.2.2.2⟩
    · have := gOk_out h; exact ⟨this.1, this.2.1, this.2.2.2⟩
  obtain ⟨hc, hk, hka⟩ := h1
  obtain ⟨kk, rfl⟩ : ∃ kk : Nat, k = (kk : Int) := ⟨k.toNat, by omega⟩
  rw [show (kk : Int).toNat = kk by omega]
  rcases hka with ⟨h3, ha⟩ | ⟨h3, rfl⟩
  · obtain ⟨n, rfl⟩ : ∃ n : Nat, c = (n : Int) + 1 := ⟨(c - 1).toNat, by omega⟩
    obtain ⟨m, rfl⟩ : ∃ m : Nat, a = (m : Int) + 1 := ⟨(a - 1).toNat, by omega⟩
    rw [show ((n : Int) + 1).toNat = n + 1 by omega, show ((m : Int) + 1).toNat = m + 1 by omega]
    exact l4Bare_beast n kk m t w (by omega) (by omega) (by omega) (by omega)
  · obtain ⟨cc, rfl⟩ : ∃ cc : Nat, c = (cc : Int) := ⟨c.toNat, by omega⟩
    rw [show (cc : Int).toNat = cc by omega]
    exact l4Bare_plain cc kk t w (by omega) (by omega) (by omega) (by omega)
set_option maxHeartbeats 4000000 in
theorem l4Text_any (c k a : Int) (i : Nat) (w : World) (hi : i < 9) (h : gOkB c k a ((i : Int) + 1) = true) :
    Calls Tryd.prog 57 #[.agg #[.int .i64 c, .int .i64 k, .int .i64 a, .int .i64 ((i : Int) + 1)]] w fun e w' => e = .returned (.string (gtextN c.toNat k.toNat a.toNat i)) ∧ Below w.heap.size w w' := by
  have ca := fun W => l4Bare_any c k a ((i : Int) + 1) W (.inl h)
  have cb := fun W => l2Word_any i W hi
  have s1 : (bareN c.toNat k.toNat a.toNat).size ≤ 22 := by
    have := gOk_out h
    exact bareN_size (by omega) (by omega) (by omega) (by omega) (by omega) (by omega)
  have s2 := wordN_size hi
  unfold gtextN
  generalize bareN c.toNat k.toNat a.toNat = tB at *
  generalize wordN i = tI at *
  have keep : ∀ (W w1 : World), Below W.heap.size W w1 → W.cell? ⟨w.heap.size, 3, none⟩ = some (.int .i64 ((i : Int) + 1)) ∧ Below w.heap.size w W → w1.cell? ⟨w.heap.size, 3, none⟩ = some (.int .i64 ((i : Int) + 1)) ∧ Below w.heap.size w w1 := fun W w1 hb h =>
    ⟨(hb.cell (p := ⟨w.heap.size, 3, none⟩) (World.block_lt_of_cell? W _ h.1)).trans h.1, h.2.trans (hb.mono h.2.size)⟩
  have CA := Lib.hid (fun W h => (ca W).mono (fun e w' (hh : e = Ending.returned (.string tB) ∧ Below W.heap.size W w') => (⟨hh.1, keep W w' hh.2 h⟩ : e = Ending.returned (.string tB) ∧ _)))
  have CB := Lib.hid (fun W h => (cb W).mono (fun e w' (hh : e = Ending.returned (.string tI) ∧ Below W.heap.size W w') => (⟨hh.1, keep W w' hh.2 h⟩ : e = Ending.returned (.string tI) ∧ _)))
  clear ca cb keep h
  have n1 : ¬ 9223372036854775807 < tB.size + 1 := by omega
  have n2 : ¬ 9223372036854775807 < tB.size + 1 + tI.size := by omega
  have gB := ((Below.refl w.heap.size w).alloc (Nat.le_refl _) (.cells #[.int .i64 c, .int .i64 k, .int .i64 a, .int .i64 ((i : Int) + 1)] 25 (0, 0))).drew
  go_enter Tryd.func57, Tryd.ntmps57
  go_wp2_with fail
  go_region_with (first
    | (go_at_call 84; (refine (CA.out ((w.alloc (.cells #[.int .i64 c, .int .i64 k, .int .i64 a, .int .i64 ((i : Int) + 1)] 25 (0, 0))).drew) ⟨by show (w.alloc _).cell? _ = _; simp, gB⟩).mono ?_); rintro e w1 ⟨rfl, h3, hb⟩)
    | (go_at_call 85; (refine (CB.out _ ⟨h3, hb⟩).mono ?_); rintro e w2 ⟨rfl, k3, kb⟩))
  all_goals
    clear CA CB
    go_wp2_with fail
    go_ret
    exact ⟨rfl, kb⟩
theorem groupText_spec (c k a : Int) (i : Nat) (w : World) (hi : i < 9) (h : gOkB c k a ((i : Int) + 1) = true) :
    Calls Tryd.prog 29 #[.agg #[.int .i64 c, .int .i64 k, .int .i64 a, .int .i64 ((i : Int) + 1)]] w fun e w' => e = .returned (.tuple #[.string (gtextN c.toNat k.toNat a.toNat i), .bool true]) ∧ Below w.heap.size w w' := by
  have cc := fun W => l4Group_any c k a ((i : Int) + 1) W true h
  have ct := fun W => l4Text_any c k a i W hi h
  clear h
  generalize gtextN c.toNat k.toNat a.toNat i = t at *
  go_enter Tryd.func29, Tryd.ntmps29
  go_wp2_with fail
  refine (cc _).mono ?_
  rintro e w1 ⟨rfl, hb⟩
  obtain ⟨hc, hf⟩ := bcell hb
  have B := Lib.hid (((Below.refl _ w).alloc (Nat.le_refl _) _).trans (hb.mono (by simp)))
  clear hb cc
  go_wp2_with fail
  refine (ct _).mono ?_
  rintro e w2 ⟨rfl, hb2⟩
  have B2 := Lib.hid (B.out.trans (hb2.mono B.out.size))
  clear hb2 ct hc hf
  go_wp2_with fail
  go_ret2
  exact ⟨rfl, B2.out⟩
theorem groupText_spec_no (c k a t : Int) (w : World) (h : gOkB c k a t = false) :
    Calls Tryd.prog 29 #[.agg #[.int .i64 c, .int .i64 k, .int .i64 a, .int .i64 t]] w fun e w' => e = .returned (.tuple #[.string ⟨#[]⟩, .bool false]) ∧ Below w.heap.size w w' := by
  have cc := fun W => l4Group_any c k a t W false h
  clear h
  go_enter Tryd.func29, Tryd.ntmps29
  go_wp2_with fail
  refine (cc _).mono ?_
  rintro e w1 ⟨rfl, hb⟩
  have B := Lib.hid (((Below.refl _ w).alloc (Nat.le_refl _) _).trans (hb.mono (by simp)))
  clear hb cc
  go_wp2_with fail
  go_ret2
  exact ⟨rfl, B.out⟩
theorem kindWord_spec (k c : Nat) (w : World) (hk1 : 1 ≤ k) (hk : k ≤ 8) (hc1 : 1 ≤ c) (hc : c ≤ 6) :
    Calls Tryd.prog 32 #[.int .i64 (k : Int), .int .i64 (c : Int)] w fun e w' => e = .returned (.tuple #[.string (kwordN k c), .bool true]) ∧ Below w.heap.size w w' := by
  have c1 := fun W => l4Kind_any (k : Int) W true (decide_eq_true (by omega))
  have c2 := fun W => l1In_yes (c : Int) 1 6 W (by omega) (by omega)
  have c3 := fun W => l4Word_any k c W hk1 hk hc1 hc
  generalize kwordN k c = t at *
  go_enter Tryd.func32, Tryd.ntmps32
  go_wp2_with (first | (go_at_call 69; refine (c1 _).mono ?_; rintro e w' ⟨rfl, rfl⟩) | (go_at_call 70; refine (c2 _).mono ?_; rintro e w' ⟨rfl, rfl⟩) | (go_at_call 71; refine (c3 _).mono ?_; rintro e w' ⟨rfl, hb⟩))
  go_ret2
  exact ⟨rfl, hb⟩
theorem kindWord_spec_no (k c : Int) (w : World) (h : ¬ ((1 ≤ k ∧ k ≤ 8) ∧ 1 ≤ c ∧ c ≤ 6)) :
    Calls Tryd.prog 32 #[.int .i64 k, .int .i64 c] w fun e w' => e = .returned (.tuple #[.string ⟨#[]⟩, .bool false]) ∧ Below w.heap.size w w' := by
  obtain ⟨p, hp⟩ : ∃ p, decide (1 ≤ k ∧ k ≤ 8) = p := ⟨_, rfl⟩
  have c1 := fun W => l4Kind_any k W p hp
  cases p
  · clear hp h
    go_enter Tryd.func32, Tryd.ntmps32
    go_wp2_with (go_at_call 69; refine (c1 _).mono ?_; rintro e w' ⟨rfl, rfl⟩)
    go_ret2
    exact ⟨rfl, Below.refl _ _⟩
  · have hk := of_decide_eq_true hp
    have c2 := fun W => l1In_no c 1 6 W (by omega)
    clear hp h hk
    go_enter Tryd.func32, Tryd.ntmps32
    go_wp2_with (first | (go_at_call 69; refine (c1 _).mono ?_; rintro e w' ⟨rfl, rfl⟩) | (go_at_call 70; refine (c2 _).mono ?_; rintro e w' ⟨rfl, rfl⟩))
    go_ret2
    exact ⟨rfl, Below.refl _ _⟩
end Go.Proofs.YtklfkdmmclomoaaDoor
