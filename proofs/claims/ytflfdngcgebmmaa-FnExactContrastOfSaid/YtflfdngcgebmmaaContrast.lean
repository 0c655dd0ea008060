/- Contracts: ContrastOf of the program and of the model. -/
import Derived.Test.YtflfdngcgebmmaaShare
import Derived.Test.YtflfdngcgebmmaaClash
namespace Go.Proofs.Ytflfdngcgebmmaa
open Go.RowKit

def ctr (a b : Int) : Int := if clashB a b = true then 0 else if ((baseL a).any fun x => (baseL b).contains x) = true then 1 else 2
theorem ctr_0 {a b : Int} (h : clashB a b = true) : ctr a b = 0 := by simp only [ctr, h]; rfl
theorem ctr_1 {a b : Int} (h : clashB a b = false) (h1 : ((baseL a).any fun x => (baseL b).contains x) = true) : ctr a b = 1 := by simp only [ctr, h, h1]; rfl
theorem ctr_2 {a b : Int} (h : clashB a b = false) (h1 : ((baseL a).any fun x => (baseL b).contains x) = false) : ctr a b = 2 := by simp only [ctr, h, h1]; rfl
theorem base_pos (x : Int) : 1 ≤ (baseL x).length := by unfold baseL; split; simp; split <;> simp
theorem ret_ctr {i j : Int} (h : i = j) : Ending.returned (.tuple #[.int .i64 i, .bool true]) = .returned (.tuple #[.int .i64 j, .bool true]) := by rw [h]

set_option maxHeartbeats 1000000 in
theorem contrast_impl (a b : Int) (w : World) (a0 : 1 ≤ a) (a1 : a ≤ 9) (b0 : 1 ≤ b) (b1 : b ≤ 9) :
    Calls Try.prog 30 #[.int .i64 a, .int .i64 b] w fun e w' => e = .returned (.tuple #[.int .i64 (ctr a b), .bool true]) ∧ Below w.heap.size w w' := by
  have c1 := clash_yes a b w a0 a1 b0 b1
  have c2 := share_any a b w a0 a1 b0 b1
  obtain ⟨r, hr⟩ : ∃ r, ctr a b = r := ⟨_, rfl⟩
  rw [hr]
  clear a0 a1 b0 b1
  unfold shareB at c2
  cases hc : clashB a b
  · rw [hc] at c1
    cases hs : (baseL a).any fun x => (baseL b).contains x
    · rw [hs] at c2
      have HR := Lib.hid ((ctr_2 hc hs).symm.trans hr)
      clear hc hs hr
      go_enter Try.func30, Try.ntmps30
      go_wp2_with fail
      refine c1.mono ?_
      rintro e w' ⟨rfl, rfl⟩
      go_wp2_with fail
      refine c2.mono ?_
      rintro e w' ⟨rfl, hb⟩
      go_wp2_with fail
      go_ret2
      exact ⟨ret_ctr HR.out, hb⟩
    · rw [hs] at c2
      have HR := Lib.hid ((ctr_1 hc hs).symm.trans hr)
      clear hc hs hr
      go_enter Try.func30, Try.ntmps30
      go_wp2_with fail
      refine c1.mono ?_
      rintro e w' ⟨rfl, rfl⟩
      go_wp2_with fail
      refine c2.mono ?_
      rintro e w' ⟨rfl, hb⟩
      go_wp2_with fail
      go_ret2
      exact ⟨ret_ctr HR.out, hb⟩
  · rw [hc] at c1
    have HR := Lib.hid ((ctr_0 hc).symm.trans hr)
    clear hc hr
    go_enter Try.func30, Try.ntmps30
    go_wp2_with fail
    refine c1.mono ?_
    rintro e w' ⟨rfl, rfl⟩
    go_wp2_with fail
    go_ret2
    exact ⟨ret_ctr HR.out, Below.refl _ _⟩
theorem contrast_impl_no (a b : Int) (w : World) (h : ¬ (1 ≤ a ∧ a ≤ 9 ∧ 1 ≤ b ∧ b ≤ 9)) :
    Calls Try.prog 30 #[.int .i64 a, .int .i64 b] w fun e w' => e = .returned (.tuple #[.int .i64 0, .bool false]) ∧ Below w.heap.size w w' := by
  have c1 := clash_impl a b w
  unfold clashA at c1
  rw [if_neg h] at c1
  clear h
  go_enter Try.func30, Try.ntmps30
  go_wp2_with fail
  refine c1.mono ?_
  rintro e w' ⟨rfl, rfl⟩
  go_wp2_with fail
  go_ret2
  exact ⟨rfl, Below.refl _ _⟩

set_option maxHeartbeats 2000000 in
theorem contrast_spec (a b : Int) (w : World) (a0 : 1 ≤ a) (a1 : a ≤ 9) (b0 : 1 ≤ b) (b1 : b ≤ 9) :
    Calls Try.prog 29 #[.int .i64 a, .int .i64 b] w fun e w' => e = .returned (.tuple #[.int .i64 (ctr a b), .bool true]) ∧ Below w.heap.size w w' := by
  have c1 := l2Good_yes a w a0 a1
  have c2 := l2Good_yes b w b0 b1
  have c3 := l2Clash_any a b w
  have ca := l2Base_any a w
  have cb := fun W => l2Base_any b W
  obtain ⟨r, hr⟩ : ∃ r, ctr a b = r := ⟨_, rfl⟩
  rw [hr]
  clear a0 a1 b0 b1
  cases hc : clashB a b
  · rw [hc] at c3
    have H1 := Lib.hid (fun h => (ctr_1 (a := a) (b := b) hc h).symm.trans hr)
    have H2 := Lib.hid (fun h => (ctr_2 (a := a) (b := b) hc h).symm.trans hr)
    have n1 := base_pos a
    have n2 := base_len a
    have m2 := base_len b
    unfold AnsL at ca cb
    clear hc hr
    generalize baseL a = X at *
    generalize baseL b = Y at *
    obtain ⟨n, hn⟩ : ∃ n, X.length = n := ⟨_, rfl⟩
    obtain ⟨m, hm⟩ : ∃ m, Y.length = m := ⟨_, rfl⟩
    rw [hn] at ca n1 n2
    rw [hm] at cb m2
    have HN := Lib.hid hn
    have CB := Lib.hid cb
    clear hn hm cb
    go_enter Try.func29, Try.ntmps29
    go_wp2_with (first | (go_at_call 38; (with_reducible refine c1.mono ?_); rintro e w' ⟨rfl, rfl⟩) | (go_at_call 38; (with_reducible refine c2.mono ?_); rintro e w' ⟨rfl, rfl⟩) | (go_at_call 41; refine c3.mono ?_; rintro e w' ⟨rfl, rfl⟩))
    refine ca.mono ?_
    rintro e W1 ⟨x, cx, rfl, ho1, hb1⟩
    rcases ho1.shape with ⟨_, h0, _⟩ | ⟨g, rfl, hBg, hg⟩
    · omega
    have hr1 := ho1.rd
    clear ho1 c1 c2 c3 ca
    go_wp2_with fail
    go_loopw [7] (fun i wr => ∃ k : Nat, k ≤ n ∧ i = .int .i64 k ∧ Hid ((X.take k).any (fun x => Y.contains x) = false) ∧ Hid (RdI wr (some ⟨g, 0, none⟩) n X) ∧ Below w.heap.size w wr) (fun i _ => n - (intOf i).toNat)
    case atStart => exact ⟨0, by omega, rfl, by show _ = _; simp, hr1, hb1⟩
    case round =>
      obtain ⟨k, hk, rfl, HT, HRd, hb⟩ := hrel
      clear hr1 hb1
      by_cases hlt : k < n
      · obtain ⟨y, hy, _⟩ := atI_of_lt HN.out hlt
        have hlt0 : g < wr.heap.size := by
          obtain ⟨b', o', e', hl', _⟩ := HRd.out.2 (by omega)
          cases e'; exact hl'
        have g1 : wr.cell? ⟨g, k, none⟩ = some (.int .i64 y) := by
          obtain ⟨b', o', e', hl', hc'⟩ := HRd.out.2 (by omega)
          cases e'
          have := rdI_at hc' hlt hy
          rw [Nat.zero_add] at this
          exact this
        have g2 : ∀ w1, Below wr.heap.size wr w1 → w1.cell? ⟨g, k, none⟩ = some (.int .i64 y) := fun w1 hw1 => (hw1.cell (p := ⟨g, k, none⟩) hlt0).trans g1
        have G2 := Lib.hid g2
        have HY := Lib.hid hy
        have lh := fun W a c (h : RdI W a m Y) => l1Has_any Y y m a c W h (by omega)
        clear hy g2
        cases hs : Y.contains y
        · simp only [hs] at lh
          have LH := Lib.hid lh
          have HT2 := Lib.hid (any_step (p := fun x => Y.contains x) HY.out HT.out hs)
          clear hs lh
          go_wp2_with fail
          go_region_with (first | (go_at_call 40; refine (CB.out _).mono ?_; rintro e w1 ⟨xb, cb, rfl, hob, hbb⟩; have hw1 : Below wr.heap.size wr w1 := ⟨hbb.os, hbb.tape, hbb.output, hbb.size, hbb.block⟩; have g3 := G2.out w1 hw1) | (go_at_call 42; refine (LH.out _ _ _ hob.rd).mono ?_; rintro e w2 ⟨rfl, rfl⟩))
          all_goals
            go_wp2_with fail
            go_roundw
            case measure => simp [intOf]; omega
            case rel => exact ⟨k + 1, by omega, by go_num, HT2, HRd.out.below hw1, hb.trans (hw1.mono hb.size)⟩
        · simp only [hs] at lh
          have LH := Lib.hid lh
          have HT2 := Lib.hid (H1.out (any_hit (p := fun x => Y.contains x) HY.out hs))
          clear hs lh
          go_wp2_with fail
          go_region_with (first | (go_at_call 40; refine (CB.out _).mono ?_; rintro e w1 ⟨xb, cb, rfl, hob, hbb⟩; have hw1 : Below wr.heap.size wr w1 := ⟨hbb.os, hbb.tape, hbb.output, hbb.size, hbb.block⟩; have g3 := G2.out w1 hw1) | (go_at_call 42; refine (LH.out _ _ _ hob.rd).mono ?_; rintro e w2 ⟨rfl, rfl⟩))
          all_goals
            go_wp2_with fail
            go_ret2
            exact ⟨ret_ctr HT2.out, hb.trans (hw1.mono hb.size)⟩
      · have HT2 := Lib.hid (H2.out (by have h1 := HT.out; rw [List.take_of_length_le (by have := HN.out; omega)] at h1; exact h1))
        go_wp2_with fail
        go_ret2
        exact ⟨ret_ctr HT2.out, hb⟩
  · rw [hc] at c3
    have HR := Lib.hid ((ctr_0 hc).symm.trans hr)
    clear hc hr ca cb
    go_enter Try.func29, Try.ntmps29
    go_wp2_with (first | (go_at_call 38; (with_reducible refine c1.mono ?_); rintro e w' ⟨rfl, rfl⟩) | (go_at_call 38; (with_reducible refine c2.mono ?_); rintro e w' ⟨rfl, rfl⟩) | (go_at_call 41; refine c3.mono ?_; rintro e w' ⟨rfl, rfl⟩))
    go_ret2
    exact ⟨ret_ctr HR.out, Below.refl _ _⟩
theorem contrast_spec_no (a b : Int) (w : World) (h : ¬ (1 ≤ a ∧ a ≤ 9 ∧ 1 ≤ b ∧ b ≤ 9)) :
    Calls Try.prog 29 #[.int .i64 a, .int .i64 b] w fun e w' => e = .returned (.tuple #[.int .i64 0, .bool false]) ∧ Below w.heap.size w w' := by
  by_cases ha : 1 ≤ a ∧ a ≤ 9
  · have c1 := l2Good_yes a w ha.1 ha.2
    have c2 := l2Good_no b w (by omega)
    clear ha h
    go_enter Try.func29, Try.ntmps29
    go_wp2_with (first | (go_at_call 38; (with_reducible refine c1.mono ?_); rintro e w' ⟨rfl, rfl⟩) | (go_at_call 38; (with_reducible refine c2.mono ?_); rintro e w' ⟨rfl, rfl⟩))
    go_ret2
    exact ⟨rfl, Below.refl _ _⟩
  · have c1 := l2Good_no a w (by omega)
    clear ha h
    go_enter Try.func29, Try.ntmps29
    go_wp2_with (go_at_call 38; (with_reducible refine c1.mono ?_); rintro e w' ⟨rfl, rfl⟩)
    go_ret2
    exact ⟨rfl, Below.refl _ _⟩
end Go.Proofs.Ytflfdngcgebmmaa
