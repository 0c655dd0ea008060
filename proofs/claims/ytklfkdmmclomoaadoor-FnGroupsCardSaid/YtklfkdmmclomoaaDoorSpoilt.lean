/- Contract: the cursor's spoilt: some string that is at most one byte longer. -/
import Derived.Test.YtklfkdmmclomoaaDoorDraw
import Derived.IntWalk
namespace Go.Proofs.YtklfkdmmclomoaaDoor
open Go.RowKit

set_option maxHeartbeats 4000000 in
theorem spoilt_any (B p : Nat) (a : Option Addr) (n cap M : Nat) (w : World) (h : IsCur w B p a n cap M) (hM : M ≤ 900000) (hn : n ≤ 65536) (t u : ByteArray) (ht : t.size ≤ 100000) (hu0 : 1 ≤ u.size) (hu : u.size ≤ 1000) :
    Calls Tryd.prog 60 #[.pointer (some ⟨p, 0, none⟩), .string t, .string u] w fun e w' => (∃ s : ByteArray, e = .returned (.string s) ∧ s.size ≤ t.size + 1) ∧ IsCur w' B p a n cap (M + 10) ∧ w.grownBy w' (some p) := by
  have HC0 := Lib.hid h
  have hpw := h.lt
  clear h
  by_cases h0 : t.size = 0
  · have e0 : t = ByteArray.empty := by
      apply ByteArray.ext
      apply Array.toList_inj.1
      exact List.eq_nil_of_length_eq_zero (by simpa using h0)
    subst e0
    clear h0
    go_enter Tryd.func60, Tryd.ntmps60
    go_wp2_with fail
    go_ret
    exact ⟨⟨_, rfl, by simp only [ByteArray.size_extract]; omega⟩, HC0.out.mono (by omega), grownBy_refl _ _⟩
  · have e0 : (t.toList == []) = false := by
      rw [ByteArray.toList_eq]
      cases hx : t.data.toList with
      | nil => exact absurd (by have := congrArg List.length hx; simpa using this) h0
      | cons _ _ => rfl
    have e1 : t.toList.isEmpty = false := by
      rw [ByteArray.toList_eq]
      cases hx : t.data.toList with
      | nil => exact absurd (by have := congrArg List.length hx; simpa using this) h0
      | cons _ _ => rfl
    have hpos : 0 < t.size := by omega
    clear h0
    go_enter Tryd.func60, Tryd.ntmps60
    go_wp2_with fail
    refine (pick_any B p a n cap M w HC0.out (by omega) hn (t.size : Int) (by omega) (by omega)).mono ?_
    rintro e w1 ⟨⟨i, rfl, hi0, hi1⟩, hc1, hg1⟩
    obtain ⟨i, rfl⟩ : ∃ j : Nat, i = j := ⟨i.toNat, by omega⟩
    have hi : i < t.size := by omega
    have HC1 := Lib.hid hc1
    have HG1 := Lib.hid hg1
    clear hc1 hi1 hg1
    go_wp2_with fail
    refine (pick_any B p a n cap _ w1 HC1.out (by omega) hn (u.size : Int) (by omega) (by omega)).mono ?_
    rintro e w2 ⟨⟨k, rfl, hk0, hk1⟩, hc2, hg2⟩
    obtain ⟨k, rfl⟩ : ∃ j : Nat, k = j := ⟨k.toNat, by omega⟩
    have hk : k < u.size := by omega
    have HC2 := Lib.hid hc2
    have HG2 := Lib.hid (HG1.out.trans hg2)
    clear hc2 hk1 hg2 HC1 HG1
    go_wp2_with fail
    have hv : ((u.extract k u.size).extract 0 1).size ≤ 1 := by simp only [ByteArray.size_extract]; omega
    generalize (u.extract k u.size).extract 0 1 = v at *
    refine (pick_any B p a n cap _ w2 HC2.out (by omega) hn 3 (by omega) (by omega)).mono ?_
    rintro e w3 ⟨⟨c, rfl, hc0, hc1⟩, hc3, hg3⟩
    have HC3 := Lib.hid (hc3.mono (M' := M + 10) (by omega))
    have HG3 := Lib.hid (HG2.out.trans hg3)
    clear hc3 hg3 HC2 HG2
    have s1 : IntKind.i64.wrap ((i : Int) + 1) = (i : Int) + 1 := IntWalk.i64_in _ (by omega)
    have s2 : (0 : Int) ≤ (i : Int) + 1 := by omega
    have s3 : ((i : Int) + 1).toNat = i + 1 := by omega
    have s4 : (i : Int) ≤ (t.size : Int) := by omega
    have s5 : (i : Int) + 1 ≤ (t.size : Int) := by omega
    by_cases c0 : c = 0
    · have t0 : (c == 0) = true := by rw [beq_iff_eq]; exact c0
      clear c0 hc0 hc1
      go_wp2_with fail
      go_quiet (fail)
      go_wp2_with fail
      go_ret
      exact ⟨⟨_, rfl, by simp only [ByteArray.size_append, ByteArray.size_extract]; omega⟩, HC3.out, ⟨HG3.out.os, HG3.out.tape, HG3.out.output, HG3.out.size, HG3.out.block⟩⟩
    · have t0 : (c == 0) = false := by rw [beq_eq_false_iff_ne]; exact c0
      by_cases c1 : c = 1
      · have t1 : (c == 1) = true := by rw [beq_iff_eq]; exact c1
        clear c0 c1 hc0 hc1
        go_wp2_with fail
        go_quiet (fail)
        go_wp2_with fail
        go_ret
        exact ⟨⟨_, rfl, by simp only [ByteArray.size_append, ByteArray.size_extract]; omega⟩, HC3.out, ⟨HG3.out.os, HG3.out.tape, HG3.out.output, HG3.out.size, HG3.out.block⟩⟩
      · have t1 : (c == 1) = false := by rw [beq_eq_false_iff_ne]; exact c1
        clear c0 c1 hc0 hc1
        go_wp2_with fail
        go_quiet (fail)
        go_wp2_with fail
        go_ret
        exact ⟨⟨_, rfl, by simp only [ByteArray.size_append, ByteArray.size_extract]; omega⟩, HC3.out, ⟨HG3.out.os, HG3.out.tape, HG3.out.output, HG3.out.size, HG3.out.block⟩⟩
end Go.Proofs.YtklfkdmmclomoaaDoor
