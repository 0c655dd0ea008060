/- Contract: the draw of two numbers that are mostly tinctures; and what the law is told of contrasts and lists. -/
import Derived.Test.YtflfdngcgebmmaaDoorDrawTin
import Derived.Test.YtflfdngcgebmmaaDoorContrast
namespace Go.Proofs.YtflfdngcgebmmaaDoor
open Go.RowKit
theorem drawClash_any (a : Option Addr) (n cap : Nat) (w : World) (h : RdB w w.heap.size a n) (hn : n ≤ 65536) :
    Calls Tryd.prog 11 #[.slice a n cap] w fun e w' => (∃ x y : Int, e = .returned (.tuple #[.int .i64 x, .int .i64 y])) ∧ Below w.heap.size w w' := by
  have hc0 := Lib.hid (isCur_new cap h)
  clear h
  go_enter Tryd.func11, Tryd.ntmps11
  go_wp2_with fail
  refine (anyTincture_any w.heap.size w.heap.size a n cap 0 _ hc0.out (by omega) hn).mono ?_
  rintro e w1 ⟨⟨x, rfl, hx0, hx1⟩, hc1, hg1⟩
  have HC1 := Lib.hid hc1
  clear hc1
  go_wp2_with fail
  refine (anyTincture_any w.heap.size w.heap.size a n cap _ _ HC1.out (by omega) hn).mono ?_
  rintro e w2 ⟨⟨y, rfl, hy0, hy1⟩, hc2, hg2⟩
  have HB := Lib.hid (((Below.refl w.heap.size w).alloc (Nat.le_refl _) (.cells #[.slice a n cap, .int .i64 0, .int .u64 0] 47 (0, 0))).grown (hg1.trans hg2) (by rw [alloc_size]; omega) (fun q hq => by cases hq; exact Nat.le_refl _))
  clear hc2 hg1 hg2
  go_wp2_with fail
  go_ret2
  exact ⟨⟨x, y, rfl⟩, HB.out⟩
theorem agL_has (x y : Int) (h0 : 1 ≤ y) (h1 : y ≤ 9) : (agL x 9).contains y = !clashB x y := by
  unfold agL
  cases hc : clashB x y
  · have : y ∈ ((List.range 9).map fun i : Nat => ((i : Int) + 1)).filter fun y => !clashB x y := by
      rw [List.mem_filter]
      exact ⟨List.mem_map.2 ⟨(y - 1).toNat, by rw [List.mem_range]; omega, by omega⟩, by rw [hc]; rfl⟩
    simpa using this
  · have : y ∉ ((List.range 9).map fun i : Nat => ((i : Int) + 1)).filter fun y => !clashB x y := by
      rw [List.mem_filter]
      rintro ⟨_, h⟩
      rw [hc] at h; cases h
    rw [Bool.not_true, ← Bool.not_eq_true, List.contains_iff_mem]
    exact this
theorem ctr_zero (x y : Int) : (ctr x y == 0) = clashB x y := by
  cases hc : clashB x y
  · cases hs : (baseL x).any fun a => (baseL y).contains a
    · rw [ctr_2 hc hs]; rfl
    · rw [ctr_1 hc hs]; rfl
  · rw [ctr_0 hc]; rfl
end Go.Proofs.YtflfdngcgebmmaaDoor
