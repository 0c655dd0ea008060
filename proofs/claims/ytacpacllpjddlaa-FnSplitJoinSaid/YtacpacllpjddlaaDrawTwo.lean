/- Contracts: the draws of chapter 1 that give two strings. -/
import Derived.Test.YtacpacllpjddlaaDraw
namespace Go.Proofs.Ytacpacllpjddlaa
open Go.RowKit

theorem drawSplit_any (a : Option Addr) (n cap : Nat) (w : World) (h : RdB w w.heap.size a n) (hn : n ≤ 65536) :
    Calls Try.prog 9 #[.slice a n cap] w fun e w' => (∃ s t : ByteArray, e = .returned (.tuple #[.string s, .string t]) ∧ s.size ≤ 10 ∧ t.size ≤ 2) ∧ Below w.heap.size w w' := by
  have hc0 := Lib.hid (isCur_new cap h)
  clear h
  go_enter Try.func9, Try.ntmps9
  go_wp2_with fail
  refine (any1_any w.heap.size w.heap.size a n cap 0 _ hc0.out (by omega) hn).mono ?_
  rintro e w1 ⟨⟨s, rfl, hs⟩, hc1, hg1⟩
  have hb1 := ((Below.refl w.heap.size w).alloc (Nat.le_refl _) (.cells #[.slice a n cap, .int .i64 0, .int .u64 0] 44 (0, 0))).grown hg1 (by rw [alloc_size]; omega) (by simp)
  have HC := Lib.hid hc1
  clear hc1 hg1 hc0
  go_wp2_with fail
  refine (of_any w.heap.size w.heap.size a n cap 2 _ (HC.out.alloc _) (by omega) hn w1.heap.size 5 5 2 (by omega) (by omega) (shortRow_alloc _ _ _ _ 5 rfl (by decide)) (by have := HC.out.lt; omega) (by rw [alloc_size]; omega)).mono ?_
  rintro e w2 ⟨⟨t, rfl, ht⟩, hc, hg⟩
  have hb2 := (hb1.alloc hb1.size _).grown hg (by rw [alloc_size]; have := hb1.size; omega) (by simp)
  clear hc hg
  go_wp2_with fail
  go_ret2
  exact ⟨⟨s, t, rfl, hs, ht⟩, hb2⟩

theorem drawLess_any (a : Option Addr) (n cap : Nat) (w : World) (h : RdB w w.heap.size a n) (hn : n ≤ 65536) :
    Calls Try.prog 14 #[.slice a n cap] w fun e w' => (∃ s t : ByteArray, e = .returned (.tuple #[.string s, .string t]) ∧ s.size ≤ 10 ∧ t.size ≤ 10) ∧ Below w.heap.size w w' := by
  have hc0 := Lib.hid (isCur_new cap h)
  clear h
  go_enter Try.func14, Try.ntmps14
  go_wp2_with fail
  refine (any1_any w.heap.size w.heap.size a n cap 0 _ hc0.out (by omega) hn).mono ?_
  rintro e w1 ⟨⟨s, rfl, hs⟩, hc1, hg1⟩
  have hb1 := ((Below.refl w.heap.size w).alloc (Nat.le_refl _) (.cells #[.slice a n cap, .int .i64 0, .int .u64 0] 44 (0, 0))).grown hg1 (by rw [alloc_size]; omega) (by simp)
  have HC := Lib.hid hc1
  clear hc1 hg1 hc0
  go_wp2_with fail
  refine (any1_any w.heap.size w.heap.size a n cap 2 _ HC.out (by omega) hn).mono ?_
  rintro e w2 ⟨⟨t, rfl, ht⟩, hc, hg⟩
  have hb2 := hb1.grown hg hb1.size (by simp)
  clear hc hg
  go_wp2_with fail
  go_ret2
  exact ⟨⟨s, t, rfl, hs, ht⟩, hb2⟩
end Go.Proofs.Ytacpacllpjddlaa
