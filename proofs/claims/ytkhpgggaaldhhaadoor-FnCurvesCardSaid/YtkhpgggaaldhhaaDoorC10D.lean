/- Contracts: the draws of chapter 10. -/
import Derived.Test.YtkhpgggaaldhhaaDoorDraw
import Derived.Test.YtkhpgggaaldhhaaDoorDrawAny
import Derived.Test.YtkhpgggaaldhhaaDoorC9G
namespace Go.Proofs.YtkhpgggaaldhhaaDoor
open Go.RowKit

set_option maxHeartbeats 4000000 in
theorem line10_any (B p : Nat) (a : Option Addr) (n cap M : Nat) (w : World) (h : IsCur w B p a n cap M) (hM : M ≤ 900000) (hn : n ≤ 65536) :
    Calls Tryd.prog 45 #[.pointer (some ⟨p, 0, none⟩)] w fun e w' => (∃ y : Int, e = .returned (.int .i64 y)) ∧ IsCur w' B p a n cap (M + 40) ∧ w.grownBy w' (some p) := by
  have hlt0 := h.lt
  have HC1 := Lib.hid (h.alloc (.cells #[.int .i64 0, .int .i64 1, .int .i64 2, .int .i64 3, .int .i64 4, .int .i64 (-1), .int .i64 5] 3))
  have G0 := Lib.hid (World.grownBy_alloc w (.cells #[.int .i64 0, .int .i64 1, .int .i64 2, .int .i64 3, .int .i64 4, .int .i64 (-1), .int .i64 5] 3) (some p))
  have hrow := numRowP_alloc w #[.int .i64 0, .int .i64 1, .int .i64 2, .int .i64 3, .int .i64 4, .int .i64 (-1), .int .i64 5] 3 (fun _ => True) 7 rfl (by simp [isNumP])
  clear h
  go_enter Tryd.func45, Tryd.ntmps45
  go_wp2_with fail
  refine (pick_any B p a n cap _ _ HC1.out (by omega) hn 24 (by omega) (by omega)).mono ?_
  rintro e w2_ ⟨⟨r, rfl, hr0, hr1⟩, hc2, hg2⟩
  have hrow2 : NumRowP w2_ w.heap.size 7 (fun _ => True) := fun q hq => by
    obtain ⟨v, hv, hT⟩ := hrow q hq
    exact ⟨v, (World.cell?_of_block (hg2.block w.heap.size (by simp) (by first | (simp; done) | (simp; omega)))).trans hv, hT⟩
  have hs2 : w.heap.size < w2_.heap.size := Nat.lt_of_lt_of_le (by simp) hg2.size
  have HC2 := Lib.hid hc2
  have G2 := Lib.hid (G0.out.trans hg2)
  clear hc2 hg2 HC1 G0 hrow
  have h3 : r.tdiv 11 = 0 ∨ r.tdiv 11 = 1 ∨ r.tdiv 11 = 2 := by rw [Int.tdiv_eq_ediv_of_nonneg hr0]; omega
  rcases h3 with h3 | h3 | h3
  · have hq : IntKind.i64.wrap (r.tdiv 11) = 0 := by rw [h3]; decide
    have hq2 : wrap64 (r.tdiv 11) = 0 := by rw [h3]; simp [wrap64]
    have hq3 : wrap64 (5 + wrap64 (r.tdiv 11)) = 5 := by rw [h3]; simp [wrap64]
    clear h3
    clear hr0 hr1
    go_wp2_with fail
    clear hq hq2 hq3
    refine (among_p B p a n cap _ _ HC2.out (by omega) hn w.heap.size 5 7 (fun _ => True) (by omega) (by omega) (fun q hq => hrow2 q (by omega)) (by omega) (by omega)).mono ?_
    rintro e w3_ ⟨⟨y, rfl, _⟩, hc3, hg3⟩
    have HC := Lib.hid hc3
    have G3 := Lib.hid (G2.out.trans hg3)
    clear hc3 hg3
    go_wp2_with fail
    go_ret
    exact ⟨⟨_, rfl⟩, HC.out.mono (by omega), G3.out⟩
  · have hq : IntKind.i64.wrap (r.tdiv 11) = 1 := by rw [h3]; decide
    have hq2 : wrap64 (r.tdiv 11) = 1 := by rw [h3]; simp [wrap64]
    have hq3 : wrap64 (5 + wrap64 (r.tdiv 11)) = 6 := by rw [h3]; simp [wrap64]
    clear h3
    clear hr0 hr1
    go_wp2_with fail
    clear hq hq2 hq3
    refine (among_p B p a n cap _ _ HC2.out (by omega) hn w.heap.size 6 7 (fun _ => True) (by omega) (by omega) (fun q hq => hrow2 q (by omega)) (by omega) (by omega)).mono ?_
    rintro e w3_ ⟨⟨y, rfl, _⟩, hc3, hg3⟩
    have HC := Lib.hid hc3
    have G3 := Lib.hid (G2.out.trans hg3)
    clear hc3 hg3
    go_wp2_with fail
    go_ret
    exact ⟨⟨_, rfl⟩, HC.out.mono (by omega), G3.out⟩
  · have hq : IntKind.i64.wrap (r.tdiv 11) = 2 := by rw [h3]; decide
    have hq2 : wrap64 (r.tdiv 11) = 2 := by rw [h3]; simp [wrap64]
    have hq3 : wrap64 (5 + wrap64 (r.tdiv 11)) = 7 := by rw [h3]; simp [wrap64]
    clear h3
    clear hr0 hr1
    go_wp2_with fail
    clear hq hq2 hq3
    refine (among_p B p a n cap _ _ HC2.out (by omega) hn w.heap.size 7 7 (fun _ => True) (by omega) (by omega) (fun q hq => hrow2 q (by omega)) (by omega) (by omega)).mono ?_
    rintro e w3_ ⟨⟨y, rfl, _⟩, hc3, hg3⟩
    have HC := Lib.hid hc3
    have G3 := Lib.hid (G2.out.trans hg3)
    clear hc3 hg3
    go_wp2_with fail
    go_ret
    exact ⟨⟨_, rfl⟩, HC.out.mono (by omega), G3.out⟩
set_option maxHeartbeats 4000000 in
theorem drawLO_any (a : Option Addr) (n cap : Nat) (w : World) (h : RdB w w.heap.size a n) (hn : n ≤ 65536) :
    Calls Tryd.prog 14 #[.slice a n cap] w fun e w' => (∃ x y : Int, e = .returned (.tuple #[.int .i64 x, .int .i64 y])) ∧ Below w.heap.size w w' := by
  have HC := Lib.hid (isCur_new cap h)
  have HB := Lib.hid ((Below.refl w.heap.size w).alloc (Nat.le_refl _) (.cells #[.slice a n cap, .int .i64 0, .int .u64 0] 61 (0, 0)))
  clear h
  go_enter Tryd.func14, Tryd.ntmps14
  go_wp2_with fail
  refine (line10_any w.heap.size w.heap.size a n cap 0 _ HC.out (by omega) hn).mono ?_
  rintro e w1 ⟨⟨x, rfl⟩, hc1, hg1⟩
  have HC_ := Lib.hid hc1
  have HB_ := Lib.hid (HB.out.grown hg1 (by rw [alloc_size]; omega) (fun q hq => by cases hq; exact Nat.le_refl _))
  clear hc1 hg1 HC HB
  have HC := HC_
  have HB := HB_
  clear HC_ HB_
  have hlt0 := HC.out.lt
  have HC1 := Lib.hid (HC.out.alloc (.cells #[.int .i64 0, .int .i64 1, .int .i64 2, .int .i64 3, .int .i64 4, .int .i64 5, .int .i64 6, .int .i64 7, .int .i64 8, .int .i64 1000, .int .i64 (-1), .int .i64 1001] 3))
  have HB1 := Lib.hid (HB.out.alloc HB.out.size (.cells #[.int .i64 0, .int .i64 1, .int .i64 2, .int .i64 3, .int .i64 4, .int .i64 5, .int .i64 6, .int .i64 7, .int .i64 8, .int .i64 1000, .int .i64 (-1), .int .i64 1001] 3))
  have hrow := numRowP_alloc w1 #[.int .i64 0, .int .i64 1, .int .i64 2, .int .i64 3, .int .i64 4, .int .i64 5, .int .i64 6, .int .i64 7, .int .i64 8, .int .i64 1000, .int .i64 (-1), .int .i64 1001] 3 (fun _ => True) 12 rfl (by simp [isNumP])
  clear HC HB 
  go_wp2_with fail
  refine (pick_any w.heap.size w.heap.size a n cap _ _ HC1.out (by omega) hn 24 (by omega) (by omega)).mono ?_
  rintro e w2_ ⟨⟨r, rfl, hr0, hr1⟩, hc2, hg2⟩
  have hrow2 : NumRowP w2_ w1.heap.size 12 (fun _ => True) := fun q hq => by
    obtain ⟨v, hv, hT⟩ := hrow q hq
    exact ⟨v, (World.cell?_of_block (hg2.block w1.heap.size (by simp) (by first | (simp; done) | (simp; omega)))).trans hv, hT⟩
  have hs2 : w1.heap.size < w2_.heap.size := Nat.lt_of_lt_of_le (by simp) hg2.size
  have HC2 := Lib.hid hc2
  have HB2 := Lib.hid (HB1.out.grown hg2 HB1.out.size (fun q hq => by cases hq; exact Nat.le_refl _))
  clear hc2 hg2 HC1 HB1 hrow 
  have h3 : r.tdiv 11 = 0 ∨ r.tdiv 11 = 1 ∨ r.tdiv 11 = 2 := by rw [Int.tdiv_eq_ediv_of_nonneg hr0]; omega
  rcases h3 with h3 | h3 | h3
  · have hq : IntKind.i64.wrap (r.tdiv 11) = 0 := by rw [h3]; decide
    have hq2 : wrap64 (r.tdiv 11) = 0 := by rw [h3]; simp [wrap64]
    have hq3 : wrap64 (10 + wrap64 (r.tdiv 11)) = 10 := by rw [h3]; simp [wrap64]
    clear h3
    clear hr0 hr1
    go_wp2_with fail
    clear hq hq2 hq3
    refine (among_p w.heap.size w.heap.size a n cap _ _ HC2.out (by omega) hn w1.heap.size 10 12 (fun _ => True) (by omega) (by omega) (fun q hq => hrow2 q (by omega)) (by omega) (by omega)).mono ?_
    rintro e w3_ ⟨⟨y, rfl, _⟩, hc3, hg3⟩
    have HC := Lib.hid hc3
    have HB := Lib.hid (HB2.out.grown hg3 HB2.out.size (fun q hq => by cases hq; exact Nat.le_refl _))
    clear hc3 hg3 HC2 HB2 hrow2 
    go_wp2_with fail
    go_ret2
    exact ⟨⟨_, _, rfl⟩, HB.out⟩
  · have hq : IntKind.i64.wrap (r.tdiv 11) = 1 := by rw [h3]; decide
    have hq2 : wrap64 (r.tdiv 11) = 1 := by rw [h3]; simp [wrap64]
    have hq3 : wrap64 (10 + wrap64 (r.tdiv 11)) = 11 := by rw [h3]; simp [wrap64]
    clear h3
    clear hr0 hr1
    go_wp2_with fail
    clear hq hq2 hq3
    refine (among_p w.heap.size w.heap.size a n cap _ _ HC2.out (by omega) hn w1.heap.size 11 12 (fun _ => True) (by omega) (by omega) (fun q hq => hrow2 q (by omega)) (by omega) (by omega)).mono ?_
    rintro e w3_ ⟨⟨y, rfl, _⟩, hc3, hg3⟩
    have HC := Lib.hid hc3
    have HB := Lib.hid (HB2.out.grown hg3 HB2.out.size (fun q hq => by cases hq; exact Nat.le_refl _))
    clear hc3 hg3 HC2 HB2 hrow2 
    go_wp2_with fail
    go_ret2
    exact ⟨⟨_, _, rfl⟩, HB.out⟩
  · have hq : IntKind.i64.wrap (r.tdiv 11) = 2 := by rw [h3]; decide
    have hq2 : wrap64 (r.tdiv 11) = 2 := by rw [h3]; simp [wrap64]
    have hq3 : wrap64 (10 + wrap64 (r.tdiv 11)) = 12 := by rw [h3]; simp [wrap64]
    clear h3
    clear hr0 hr1
    go_wp2_with fail
    clear hq hq2 hq3
    refine (among_p w.heap.size w.heap.size a n cap _ _ HC2.out (by omega) hn w1.heap.size 12 12 (fun _ => True) (by omega) (by omega) (fun q hq => hrow2 q (by omega)) (by omega) (by omega)).mono ?_
    rintro e w3_ ⟨⟨y, rfl, _⟩, hc3, hg3⟩
    have HC := Lib.hid hc3
    have HB := Lib.hid (HB2.out.grown hg3 HB2.out.size (fun q hq => by cases hq; exact Nat.le_refl _))
    clear hc3 hg3 HC2 HB2 hrow2 
    go_wp2_with fail
    go_ret2
    exact ⟨⟨_, _, rfl⟩, HB.out⟩
set_option maxHeartbeats 4000000 in
theorem drawLT_any (a : Option Addr) (n cap : Nat) (w : World) (h : RdB w w.heap.size a n) (hn : n ≤ 65536) :
    Calls Tryd.prog 26 #[.slice a n cap] w fun e w' => (∃ x y : Int, e = .returned (.tuple #[.int .i64 x, .int .i64 y])) ∧ Below w.heap.size w w' := by
  have HC := Lib.hid (isCur_new cap h)
  have HB := Lib.hid ((Below.refl w.heap.size w).alloc (Nat.le_refl _) (.cells #[.slice a n cap, .int .i64 0, .int .u64 0] 61 (0, 0)))
  clear h
  go_enter Tryd.func26, Tryd.ntmps26
  go_wp2_with fail
  refine (line10_any w.heap.size w.heap.size a n cap 0 _ HC.out (by omega) hn).mono ?_
  rintro e w1 ⟨⟨x, rfl⟩, hc1, hg1⟩
  have HC_ := Lib.hid hc1
  have HB_ := Lib.hid (HB.out.grown hg1 (by rw [alloc_size]; omega) (fun q hq => by cases hq; exact Nat.le_refl _))
  clear hc1 hg1 HC HB
  have HC := HC_
  have HB := HB_
  clear HC_ HB_
  have hlt0 := HC.out.lt
  have HC1 := Lib.hid (HC.out.alloc (.cells #[.int .i64 1, .int .i64 2, .int .i64 5, .int .i64 8, .int .i64 20, .int .i64 1000, .int .i64 0, .int .i64 1001] 3))
  have HB1 := Lib.hid (HB.out.alloc HB.out.size (.cells #[.int .i64 1, .int .i64 2, .int .i64 5, .int .i64 8, .int .i64 20, .int .i64 1000, .int .i64 0, .int .i64 1001] 3))
  have hrow := numRowP_alloc w1 #[.int .i64 1, .int .i64 2, .int .i64 5, .int .i64 8, .int .i64 20, .int .i64 1000, .int .i64 0, .int .i64 1001] 3 (fun _ => True) 8 rfl (by simp [isNumP])
  clear HC HB 
  go_wp2_with fail
  refine (pick_any w.heap.size w.heap.size a n cap _ _ HC1.out (by omega) hn 24 (by omega) (by omega)).mono ?_
  rintro e w2_ ⟨⟨r, rfl, hr0, hr1⟩, hc2, hg2⟩
  have hrow2 : NumRowP w2_ w1.heap.size 8 (fun _ => True) := fun q hq => by
    obtain ⟨v, hv, hT⟩ := hrow q hq
    exact ⟨v, (World.cell?_of_block (hg2.block w1.heap.size (by simp) (by first | (simp; done) | (simp; omega)))).trans hv, hT⟩
  have hs2 : w1.heap.size < w2_.heap.size := Nat.lt_of_lt_of_le (by simp) hg2.size
  have HC2 := Lib.hid hc2
  have HB2 := Lib.hid (HB1.out.grown hg2 HB1.out.size (fun q hq => by cases hq; exact Nat.le_refl _))
  clear hc2 hg2 HC1 HB1 hrow 
  have h3 : r.tdiv 11 = 0 ∨ r.tdiv 11 = 1 ∨ r.tdiv 11 = 2 := by rw [Int.tdiv_eq_ediv_of_nonneg hr0]; omega
  rcases h3 with h3 | h3 | h3
  · have hq : IntKind.i64.wrap (r.tdiv 11) = 0 := by rw [h3]; decide
    have hq2 : wrap64 (r.tdiv 11) = 0 := by rw [h3]; simp [wrap64]
    have hq3 : wrap64 (6 + wrap64 (r.tdiv 11)) = 6 := by rw [h3]; simp [wrap64]
    clear h3
    clear hr0 hr1
    go_wp2_with fail
    clear hq hq2 hq3
    refine (among_p w.heap.size w.heap.size a n cap _ _ HC2.out (by omega) hn w1.heap.size 6 8 (fun _ => True) (by omega) (by omega) (fun q hq => hrow2 q (by omega)) (by omega) (by omega)).mono ?_
    rintro e w3_ ⟨⟨y, rfl, _⟩, hc3, hg3⟩
    have HC := Lib.hid hc3
    have HB := Lib.hid (HB2.out.grown hg3 HB2.out.size (fun q hq => by cases hq; exact Nat.le_refl _))
    clear hc3 hg3 HC2 HB2 hrow2 
    go_wp2_with fail
    go_ret2
    exact ⟨⟨_, _, rfl⟩, HB.out⟩
  · have hq : IntKind.i64.wrap (r.tdiv 11) = 1 := by rw [h3]; decide
    have hq2 : wrap64 (r.tdiv 11) = 1 := by rw [h3]; simp [wrap64]
    have hq3 : wrap64 (6 + wrap64 (r.tdiv 11)) = 7 := by rw [h3]; simp [wrap64]
    clear h3
    clear hr0 hr1
    go_wp2_with fail
    clear hq hq2 hq3
    refine (among_p w.heap.size w.heap.size a n cap _ _ HC2.out (by omega) hn w1.heap.size 7 8 (fun _ => True) (by omega) (by omega) (fun q hq => hrow2 q (by omega)) (by omega) (by omega)).mono ?_
    rintro e w3_ ⟨⟨y, rfl, _⟩, hc3, hg3⟩
    have HC := Lib.hid hc3
    have HB := Lib.hid (HB2.out.grown hg3 HB2.out.size (fun q hq => by cases hq; exact Nat.le_refl _))
    clear hc3 hg3 HC2 HB2 hrow2 
    go_wp2_with fail
    go_ret2
    exact ⟨⟨_, _, rfl⟩, HB.out⟩
  · have hq : IntKind.i64.wrap (r.tdiv 11) = 2 := by rw [h3]; decide
    have hq2 : wrap64 (r.tdiv 11) = 2 := by rw [h3]; simp [wrap64]
    have hq3 : wrap64 (6 + wrap64 (r.tdiv 11)) = 8 := by rw [h3]; simp [wrap64]
    clear h3
    clear hr0 hr1
    go_wp2_with fail
    clear hq hq2 hq3
    refine (among_p w.heap.size w.heap.size a n cap _ _ HC2.out (by omega) hn w1.heap.size 8 8 (fun _ => True) (by omega) (by omega) (fun q hq => hrow2 q (by omega)) (by omega) (by omega)).mono ?_
    rintro e w3_ ⟨⟨y, rfl, _⟩, hc3, hg3⟩
    have HC := Lib.hid hc3
    have HB := Lib.hid (HB2.out.grown hg3 HB2.out.size (fun q hq => by cases hq; exact Nat.le_refl _))
    clear hc3 hg3 HC2 HB2 hrow2 
    go_wp2_with fail
    go_ret2
    exact ⟨⟨_, _, rfl⟩, HB.out⟩
set_option maxHeartbeats 4000000 in
theorem drawLOrd_any (a : Option Addr) (n cap : Nat) (w : World) (h : RdB w w.heap.size a n) (hn : n ≤ 65536) :
    Calls Tryd.prog 37 #[.slice a n cap] w fun e w' => (∃ x y : Int, e = .returned (.tuple #[.int .i64 x, .int .i64 y])) ∧ Below w.heap.size w w' := by
  have HC := Lib.hid (isCur_new cap h)
  have HB := Lib.hid ((Below.refl w.heap.size w).alloc (Nat.le_refl _) (.cells #[.slice a n cap, .int .i64 0, .int .u64 0] 61 (0, 0)))
  clear h
  go_enter Tryd.func37, Tryd.ntmps37
  go_wp2_with fail
  refine (pick_any w.heap.size w.heap.size a n cap 0 _ HC.out (by omega) hn 10 (by omega) (by omega)).mono ?_
  rintro e w1 ⟨⟨x, rfl, hx0, hx1⟩, hc1, hg1⟩
  have HC1 := Lib.hid hc1
  have HB1 := Lib.hid (HB.out.grown hg1 (by rw [alloc_size]; omega) (fun q hq => by cases hq; exact Nat.le_refl _))
  clear hc1 hg1 HC HB
  go_wp2_with fail
  refine (line10_any w.heap.size w.heap.size a n cap _ _ HC1.out (by omega) hn).mono ?_
  rintro e w2 ⟨⟨y, rfl⟩, hc2, hg2⟩
  have HB2 := Lib.hid (HB1.out.grown hg2 HB1.out.size (fun q hq => by cases hq; exact Nat.le_refl _))
  clear hc2 hg2 HC1 HB1
  go_wp2_with fail
  go_ret2
  exact ⟨⟨_, _, rfl⟩, HB2.out⟩
set_option maxHeartbeats 4000000 in
theorem drawFR_any (a : Option Addr) (n cap : Nat) (w : World) (h : RdB w w.heap.size a n) (hn : n ≤ 65536) :
    Calls Tryd.prog 19 #[.slice a n cap] w fun e w' => (∃ d l f s p : Int, e = .returned (.tuple #[.agg #[.int .i64 d, .int .i64 l, .int .i64 f, .int .i64 s], .int .i64 p])) ∧ Below w.heap.size w w' := by
  have X0 := Lib.hid ((BoxF.new w [.int .i64 0, .int .i64 0, .int .i64 0, .int .i64 0] 30).alloc (.cells #[.slice a n cap, .int .i64 0, .int .u64 0] 61 (0, 0)))
  have hal := World.grownBy_alloc w (.cells #[.int .i64 0, .int .i64 0, .int .i64 0, .int .i64 0] 30 (0, 0)) none
  have hR : RdB (w.alloc (.cells #[.int .i64 0, .int .i64 0, .int .i64 0, .int .i64 0] 30 (0, 0))) (w.alloc (.cells #[.int .i64 0, .int .i64 0, .int .i64 0, .int .i64 0] 30 (0, 0))).heap.size a n := h.on ((Below.refl w.heap.size w).alloc (Nat.le_refl _) _)
  have hc0 := isCur_new cap hR
  have HB := Lib.hid (((Below.refl w.heap.size w).alloc (Nat.le_refl _) (.cells #[.int .i64 0, .int .i64 0, .int .i64 0, .int .i64 0] 30 (0, 0))).alloc (by simp) (.cells #[.slice a n cap, .int .i64 0, .int .u64 0] 61 (0, 0)))
  clear h hal hR
  simp only [World.size_alloc] at hc0
  have HC := Lib.hid hc0
  clear hc0
  go_enter Tryd.func19, Tryd.ntmps19
  go_wp2_with fail
  refine (anyField_any (w.heap.size + 1) (w.heap.size + 1) a n cap 0 _ HC.out (by omega) hn).mono ?_
  rintro e w1 ⟨⟨d, l, f, s, rfl⟩, hc1, hg1⟩
  have HC_ := Lib.hid hc1
  have HB_ := Lib.hid (HB.out.grown hg1 (by first | (simp; done) | (simp; omega)) (fun q hq => by cases hq; omega))
  have X0_ := Lib.hid (X0.out.kept hg1 (by simp))
  clear hc1 hg1 HC HB X0
  have HC := HC_
  have HB := HB_
  have X0 := X0_
  clear HC_ HB_ X0_
  have hlt0 := HC.out.lt
  have HC1 := Lib.hid (HC.out.alloc (.cells #[.int .i64 0, .int .i64 1, .int .i64 0, .int .i64 1, .int .i64 (-1), .int .i64 2] 3))
  have HB1 := Lib.hid (HB.out.alloc HB.out.size (.cells #[.int .i64 0, .int .i64 1, .int .i64 0, .int .i64 1, .int .i64 (-1), .int .i64 2] 3))
  have hrow := numRowP_alloc w1 #[.int .i64 0, .int .i64 1, .int .i64 0, .int .i64 1, .int .i64 (-1), .int .i64 2] 3 (fun _ => True) 6 rfl (by simp [isNumP])
  have X01 := Lib.hid (X0.out.alloc (.cells #[.int .i64 0, .int .i64 1, .int .i64 0, .int .i64 1, .int .i64 (-1), .int .i64 2] 3))
  clear HC HB X0
  go_wp2_with fail
  refine (pick_any (w.heap.size + 1) (w.heap.size + 1) a n cap _ _ HC1.out (by omega) hn 24 (by omega) (by omega)).mono ?_
  rintro e w2_ ⟨⟨r, rfl, hr0, hr1⟩, hc2, hg2⟩
  have hrow2 : NumRowP w2_ w1.heap.size 6 (fun _ => True) := fun q hq => by
    obtain ⟨v, hv, hT⟩ := hrow q hq
    exact ⟨v, (World.cell?_of_block (hg2.block w1.heap.size (by simp) (by first | (simp; done) | (simp; omega)))).trans hv, hT⟩
  have hs2 : w1.heap.size < w2_.heap.size := Nat.lt_of_lt_of_le (by simp) hg2.size
  have HC2 := Lib.hid hc2
  have HB2 := Lib.hid (HB1.out.grown hg2 HB1.out.size (fun q hq => by cases hq; omega))
  have X02 := Lib.hid (X01.out.kept hg2 (by first | (simp; done) | (simp; omega)))
  clear hc2 hg2 HC1 HB1 hrow X01
  have h3 : r.tdiv 11 = 0 ∨ r.tdiv 11 = 1 ∨ r.tdiv 11 = 2 := by rw [Int.tdiv_eq_ediv_of_nonneg hr0]; omega
  rcases h3 with h3 | h3 | h3
  · have hq : IntKind.i64.wrap (r.tdiv 11) = 0 := by rw [h3]; decide
    have hq2 : wrap64 (r.tdiv 11) = 0 := by rw [h3]; simp [wrap64]
    have hq3 : wrap64 (4 + wrap64 (r.tdiv 11)) = 4 := by rw [h3]; simp [wrap64]
    clear h3
    clear hr0 hr1
    go_wp2_with fail
    clear hq hq2 hq3
    refine (among_p (w.heap.size + 1) (w.heap.size + 1) a n cap _ _ HC2.out (by omega) hn w1.heap.size 4 6 (fun _ => True) (by omega) (by omega) (fun q hq => hrow2 q (by omega)) (by omega) (by omega)).mono ?_
    rintro e w3_ ⟨⟨y, rfl, _⟩, hc3, hg3⟩
    have HC := Lib.hid hc3
    have HB := Lib.hid (HB2.out.grown hg3 HB2.out.size (fun q hq => by cases hq; omega))
    have X0 := Lib.hid (X02.out.kept hg3 (by first | (simp; done) | (simp; omega)))
    clear hc3 hg3 HC2 HB2 hrow2 X02
    obtain ⟨k0, k1, k2, k3, kf⟩ := X0.out.four
    have hg9 := grown4 w3_ w.heap.size (.int .i64 d) (.int .i64 l) (.int .i64 f) (.int .i64 s)
    have HB9 := Lib.hid (HB.out.grown hg9 HB.out.size (fun q hq => by cases hq; exact Nat.le_refl _))
    have X9 := (((X0.out.set 0 (.int .i64 d)).set 1 (.int .i64 l)).set 2 (.int .i64 f)).set 3 (.int .i64 s)
    simp only [List.set_cons_zero, List.set_cons_succ] at X9
    obtain ⟨m0, m1, m2, m3, mf⟩ := X9.four
    clear hg9 X9
    go_wp2_with fail
    exact bodyPost_ret (v := .tuple #[.agg #[.int .i64 d, .int .i64 l, .int .i64 f, .int .i64 s], .int .i64 y]) (by simp [results, Tryd.results19, go_sem, m0, m1, m2, m3]) rfl ⟨⟨_, _, _, _, _, rfl⟩, HB9.out⟩
  · have hq : IntKind.i64.wrap (r.tdiv 11) = 1 := by rw [h3]; decide
    have hq2 : wrap64 (r.tdiv 11) = 1 := by rw [h3]; simp [wrap64]
    have hq3 : wrap64 (4 + wrap64 (r.tdiv 11)) = 5 := by rw [h3]; simp [wrap64]
    clear h3
    clear hr0 hr1
    go_wp2_with fail
    clear hq hq2 hq3
    refine (among_p (w.heap.size + 1) (w.heap.size + 1) a n cap _ _ HC2.out (by omega) hn w1.heap.size 5 6 (fun _ => True) (by omega) (by omega) (fun q hq => hrow2 q (by omega)) (by omega) (by omega)).mono ?_
    rintro e w3_ ⟨⟨y, rfl, _⟩, hc3, hg3⟩
    have HC := Lib.hid hc3
    have HB := Lib.hid (HB2.out.grown hg3 HB2.out.size (fun q hq => by cases hq; omega))
    have X0 := Lib.hid (X02.out.kept hg3 (by first | (simp; done) | (simp; omega)))
    clear hc3 hg3 HC2 HB2 hrow2 X02
    obtain ⟨k0, k1, k2, k3, kf⟩ := X0.out.four
    have hg9 := grown4 w3_ w.heap.size (.int .i64 d) (.int .i64 l) (.int .i64 f) (.int .i64 s)
    have HB9 := Lib.hid (HB.out.grown hg9 HB.out.size (fun q hq => by cases hq; exact Nat.le_refl _))
    have X9 := (((X0.out.set 0 (.int .i64 d)).set 1 (.int .i64 l)).set 2 (.int .i64 f)).set 3 (.int .i64 s)
    simp only [List.set_cons_zero, List.set_cons_succ] at X9
    obtain ⟨m0, m1, m2, m3, mf⟩ := X9.four
    clear hg9 X9
    go_wp2_with fail
    exact bodyPost_ret (v := .tuple #[.agg #[.int .i64 d, .int .i64 l, .int .i64 f, .int .i64 s], .int .i64 y]) (by simp [results, Tryd.results19, go_sem, m0, m1, m2, m3]) rfl ⟨⟨_, _, _, _, _, rfl⟩, HB9.out⟩
  · have hq : IntKind.i64.wrap (r.tdiv 11) = 2 := by rw [h3]; decide
    have hq2 : wrap64 (r.tdiv 11) = 2 := by rw [h3]; simp [wrap64]
    have hq3 : wrap64 (4 + wrap64 (r.tdiv 11)) = 6 := by rw [h3]; simp [wrap64]
    clear h3
    clear hr0 hr1
    go_wp2_with fail
    clear hq hq2 hq3
    refine (among_p (w.heap.size + 1) (w.heap.size + 1) a n cap _ _ HC2.out (by omega) hn w1.heap.size 6 6 (fun _ => True) (by omega) (by omega) (fun q hq => hrow2 q (by omega)) (by omega) (by omega)).mono ?_
    rintro e w3_ ⟨⟨y, rfl, _⟩, hc3, hg3⟩
    have HC := Lib.hid hc3
    have HB := Lib.hid (HB2.out.grown hg3 HB2.out.size (fun q hq => by cases hq; omega))
    have X0 := Lib.hid (X02.out.kept hg3 (by first | (simp; done) | (simp; omega)))
    clear hc3 hg3 HC2 HB2 hrow2 X02
    obtain ⟨k0, k1, k2, k3, kf⟩ := X0.out.four
    have hg9 := grown4 w3_ w.heap.size (.int .i64 d) (.int .i64 l) (.int .i64 f) (.int .i64 s)
    have HB9 := Lib.hid (HB.out.grown hg9 HB.out.size (fun q hq => by cases hq; exact Nat.le_refl _))
    have X9 := (((X0.out.set 0 (.int .i64 d)).set 1 (.int .i64 l)).set 2 (.int .i64 f)).set 3 (.int .i64 s)
    simp only [List.set_cons_zero, List.set_cons_succ] at X9
    obtain ⟨m0, m1, m2, m3, mf⟩ := X9.four
    clear hg9 X9
    go_wp2_with fail
    exact bodyPost_ret (v := .tuple #[.agg #[.int .i64 d, .int .i64 l, .int .i64 f, .int .i64 s], .int .i64 y]) (by simp [results, Tryd.results19, go_sem, m0, m1, m2, m3]) rfl ⟨⟨_, _, _, _, _, rfl⟩, HB9.out⟩
theorem drawSW_any (a : Option Addr) (n cap : Nat) (w : World) (h : RdB w w.heap.size a n) (hn : n ≤ 65536) :
    Calls Tryd.prog 34 #[.slice a n cap] w fun e w' => (∃ d l f s : Int, e = .returned (.agg #[.int .i64 d, .int .i64 l, .int .i64 f, .int .i64 s])) ∧ Below w.heap.size w w' := by
  have X0 := Lib.hid ((BoxF.new w [.int .i64 0, .int .i64 0, .int .i64 0, .int .i64 0] 30).alloc (.cells #[.slice a n cap, .int .i64 0, .int .u64 0] 61 (0, 0)))
  have hal := World.grownBy_alloc w (.cells #[.int .i64 0, .int .i64 0, .int .i64 0, .int .i64 0] 30 (0, 0)) none
  have hR : RdB (w.alloc (.cells #[.int .i64 0, .int .i64 0, .int .i64 0, .int .i64 0] 30 (0, 0))) (w.alloc (.cells #[.int .i64 0, .int .i64 0, .int .i64 0, .int .i64 0] 30 (0, 0))).heap.size a n := h.on ((Below.refl w.heap.size w).alloc (Nat.le_refl _) _)
  have hc0 := isCur_new cap hR
  have HB := Lib.hid (((Below.refl w.heap.size w).alloc (Nat.le_refl _) (.cells #[.int .i64 0, .int .i64 0, .int .i64 0, .int .i64 0] 30 (0, 0))).alloc (by simp) (.cells #[.slice a n cap, .int .i64 0, .int .u64 0] 61 (0, 0)))
  clear h hal hR
  simp only [World.size_alloc] at hc0
  have HC := Lib.hid hc0
  clear hc0
  go_enter Tryd.func34, Tryd.ntmps34
  go_wp2_with fail
  refine (anyField_any (w.heap.size + 1) (w.heap.size + 1) a n cap 0 _ HC.out (by omega) hn).mono ?_
  rintro e w1 ⟨⟨d, l, f, s, rfl⟩, hc1, hg1⟩
  have HC_ := Lib.hid hc1
  have HB_ := Lib.hid (HB.out.grown hg1 (by first | (simp; done) | (simp; omega)) (fun q hq => by cases hq; omega))
  have X0_ := Lib.hid (X0.out.kept hg1 (by simp))
  clear hc1 hg1 HC HB X0
  have HC := HC_
  have HB := HB_
  have X0 := X0_
  clear HC_ HB_ X0_
  obtain ⟨k0, k1, k2, k3, kf⟩ := X0.out.four
  have hg9 := grown4 w1 w.heap.size (.int .i64 d) (.int .i64 l) (.int .i64 f) (.int .i64 s)
  have HB9 := Lib.hid (HB.out.grown hg9 HB.out.size (fun q hq => by cases hq; exact Nat.le_refl _))
  have X9 := (((X0.out.set 0 (.int .i64 d)).set 1 (.int .i64 l)).set 2 (.int .i64 f)).set 3 (.int .i64 s)
  simp only [List.set_cons_zero, List.set_cons_succ] at X9
  obtain ⟨m0, m1, m2, m3, mf⟩ := X9.four
  clear hg9 X9
  go_wp2_with fail
  exact bodyPost_ret (v := .agg #[.int .i64 d, .int .i64 l, .int .i64 f, .int .i64 s]) (by simp [results, Tryd.results34, go_sem, m0, m1, m2, m3]) rfl ⟨⟨_, _, _, _, rfl⟩, HB9.out⟩
set_option maxHeartbeats 4000000 in
theorem drawFP_any (a : Option Addr) (n cap : Nat) (w : World) (h : RdB w w.heap.size a n) (hn : n ≤ 65536) :
    Calls Tryd.prog 67 #[.slice a n cap] w fun e w' => (∃ d l f s x y : Int, e = .returned (.tuple #[.agg #[.int .i64 d, .int .i64 l, .int .i64 f, .int .i64 s], .int .i64 x, .int .i64 y])) ∧ Below w.heap.size w w' := by
  have X0 := Lib.hid ((BoxF.new w [.int .i64 0, .int .i64 0, .int .i64 0, .int .i64 0] 30).alloc (.cells #[.slice a n cap, .int .i64 0, .int .u64 0] 61 (0, 0)))
  have hal := World.grownBy_alloc w (.cells #[.int .i64 0, .int .i64 0, .int .i64 0, .int .i64 0] 30 (0, 0)) none
  have hR : RdB (w.alloc (.cells #[.int .i64 0, .int .i64 0, .int .i64 0, .int .i64 0] 30 (0, 0))) (w.alloc (.cells #[.int .i64 0, .int .i64 0, .int .i64 0, .int .i64 0] 30 (0, 0))).heap.size a n := h.on ((Below.refl w.heap.size w).alloc (Nat.le_refl _) _)
  have hc0 := isCur_new cap hR
  have HB := Lib.hid (((Below.refl w.heap.size w).alloc (Nat.le_refl _) (.cells #[.int .i64 0, .int .i64 0, .int .i64 0, .int .i64 0] 30 (0, 0))).alloc (by simp) (.cells #[.slice a n cap, .int .i64 0, .int .u64 0] 61 (0, 0)))
  clear h hal hR
  simp only [World.size_alloc] at hc0
  have HC := Lib.hid hc0
  clear hc0
  go_enter Tryd.func67, Tryd.ntmps67
  go_wp2_with fail
  refine (anyField_any (w.heap.size + 1) (w.heap.size + 1) a n cap 0 _ HC.out (by omega) hn).mono ?_
  rintro e w1 ⟨⟨d, l, f, s, rfl⟩, hc1, hg1⟩
  have HC_ := Lib.hid hc1
  have HB_ := Lib.hid (HB.out.grown hg1 (by first | (simp; done) | (simp; omega)) (fun q hq => by cases hq; omega))
  have X0_ := Lib.hid (X0.out.kept hg1 (by simp))
  clear hc1 hg1 HC HB X0
  have HC := HC_
  have HB := HB_
  have X0 := X0_
  clear HC_ HB_ X0_
  go_wp2_with fail
  refine (pick_any (w.heap.size + 1) (w.heap.size + 1) a n cap _ _ HC.out (by omega) hn 22 (by omega) (by omega)).mono ?_
  rintro e w2 ⟨⟨x, rfl, hx0, hx1⟩, hc1, hg1⟩
  have HC_ := Lib.hid hc1
  have HB_ := Lib.hid (HB.out.grown hg1 HB.out.size (fun q hq => by cases hq; omega))
  have X0_ := Lib.hid (X0.out.kept hg1 (by simp))
  clear hc1 hg1 HC HB X0
  have HC := HC_
  have HB := HB_
  have X0 := X0_
  clear HC_ HB_ X0_
  go_wp2_with fail
  refine (pick_any (w.heap.size + 1) (w.heap.size + 1) a n cap _ _ HC.out (by omega) hn 26 (by omega) (by omega)).mono ?_
  rintro e w3 ⟨⟨y, rfl, hy0, hy1⟩, hc1, hg1⟩
  have HC_ := Lib.hid hc1
  have HB_ := Lib.hid (HB.out.grown hg1 HB.out.size (fun q hq => by cases hq; omega))
  have X0_ := Lib.hid (X0.out.kept hg1 (by simp))
  clear hc1 hg1 HC HB X0
  have HC := HC_
  have HB := HB_
  have X0 := X0_
  clear HC_ HB_ X0_
  obtain ⟨k0, k1, k2, k3, kf⟩ := X0.out.four
  have hg9 := grown4 w3 w.heap.size (.int .i64 d) (.int .i64 l) (.int .i64 f) (.int .i64 s)
  have HB9 := Lib.hid (HB.out.grown hg9 HB.out.size (fun q hq => by cases hq; exact Nat.le_refl _))
  have X9 := (((X0.out.set 0 (.int .i64 d)).set 1 (.int .i64 l)).set 2 (.int .i64 f)).set 3 (.int .i64 s)
  simp only [List.set_cons_zero, List.set_cons_succ] at X9
  obtain ⟨m0, m1, m2, m3, mf⟩ := X9.four
  clear hg9 X9
  go_wp2_with fail
  exact bodyPost_ret (v := .tuple #[.agg #[.int .i64 d, .int .i64 l, .int .i64 f, .int .i64 s], .int .i64 (x - 1), .int .i64 (y - 1)]) (by simp [results, Tryd.results67, go_sem, m0, m1, m2, m3]) rfl ⟨⟨_, _, _, _, _, _, rfl⟩, HB9.out⟩
end Go.Proofs.YtkhpgggaaldhhaaDoor
