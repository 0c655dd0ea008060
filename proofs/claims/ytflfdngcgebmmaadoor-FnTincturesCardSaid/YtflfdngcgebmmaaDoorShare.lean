/- Contracts: slices.Index, Contains, IndexFunc and ContainsFunc at numbers, and shareBase. -/
import Derived.Test.YtflfdngcgebmmaaDoorLists
import Derived.Test.YtflfdngcgebmmaaDoorBases
namespace Go.Proofs.YtflfdngcgebmmaaDoor
open Go.RowKit

/-- A place was found. -/
def Found (r : Bool) (w : World) (e : Ending) (w' : World) : Prop := ∃ i : Int, e = .returned (.int .i64 i) ∧ decide (0 ≤ i) = r ∧ -1 ≤ i ∧ w = w'
theorem found_at {i : Int} {r : Bool} {w : World} (h : decide (0 ≤ i) = r) (h1 : -1 ≤ i) : Found r w (.returned (.int .i64 i)) w := ⟨i, rfl, h, h1, rfl⟩

set_option maxHeartbeats 1000000 in
theorem index_any (X : List Int) (x : Int) (n : Nat) (a : Option Addr) (c : Nat) (w : World) (h : RdI w a n X) (hn : n ≤ 1048577) :
    Calls Tryd.prog 37 #[.slice a n c, .int .i64 x] w (Found (X.contains x) w) := by
  obtain ⟨r, hr⟩ : ∃ r, X.contains x = r := ⟨_, rfl⟩
  rw [hr]
  have HR := Lib.hid hr
  have HL := Lib.hid h.1
  rcases Nat.eq_zero_or_pos n with hz | hz
  · have HX := Lib.hid (show false = r by
      rw [← hr]
      have : X = [] := List.eq_nil_of_length_eq_zero (by have := h.1; omega)
      rw [this]; rfl)
    subst hz
    clear h hr
    go_enter Tryd.func37, Tryd.ntmps37
    go_wp2_with fail
    refine wp_loop_rounds 1 ?_
    rw [rounds_succ]
    go_wp2_with fail
    go_ret
    exact found_at (i := -1) HX.out (by omega)
  · obtain ⟨b, o, rfl, _, hc⟩ := h.2 hz
    have HC := Lib.hid hc
    clear h hr hc
    go_enter Tryd.func37, Tryd.ntmps37
    go_wp2_with fail
    go_loopw [8] (fun i wr => ∃ k : Nat, k ≤ n ∧ i = .int .i64 k ∧ Hid ((X.take k).contains x = false) ∧ w = wr) (fun i _ => n - (intOf i).toNat)
    case atStart => exact ⟨0, Nat.zero_le _, rfl, by show _ = _; simp, rfl⟩
    case round =>
      obtain ⟨k, hk, rfl, HT, rfl⟩ := hrel
      by_cases hlt : k < n
      · obtain ⟨y, hy, _⟩ := atI_of_lt HL.out hlt
        have hcell := rdI_at HC.out hlt hy
        have HY := Lib.hid hy
        clear hy
        by_cases hxy : x = y
        · have e1 : (x == y) = true := by rw [beq_iff_eq]; exact hxy
          have HF := Lib.hid (show true = r from (has_hit (X := X) (x := x) (k := k) (by rw [HY.out, hxy])).symm.trans HR.out)
          clear hxy
          go_wp2_with fail
          go_ret
          exact found_at (by rw [← HF.out]; simp) (by omega)
        · have e1 : (x == y) = false := by rw [beq_eq_false_iff_ne]; exact hxy
          have HT2 := Lib.hid (has_step HY.out HT.out (fun h => hxy h.symm))
          clear hxy
          go_wp2_with fail
          go_roundw
          case rel => exact ⟨k + 1, by omega, by go_num, HT2, trivial⟩
          case measure => simp [intOf]; omega
      · have HF := Lib.hid (show false = r by
          have h1 := HT.out
          rw [List.take_of_length_le (by have := HL.out; omega), HR.out] at h1
          exact h1.symm)
        go_wp2_with fail
        go_ret
        exact found_at (i := -1) HF.out (by omega)
theorem contains_any (X : List Int) (x : Int) (n : Nat) (a : Option Addr) (c : Nat) (w : World) (h : RdI w a n X) (hn : n ≤ 1048577) :
    Calls Tryd.prog 34 #[.slice a n c, .int .i64 x] w fun e w' => e = .returned (.bool (X.contains x)) ∧ w = w' := by
  have cc := index_any X x n a c w h hn
  obtain ⟨r, hr⟩ : ∃ r, X.contains x = r := ⟨_, rfl⟩
  rw [hr] at cc ⊢
  clear hr h
  go_enter Tryd.func34, Tryd.ntmps34
  go_wp2_with fail
  refine cc.mono ?_
  rintro e w' ⟨i, rfl, hi, hi1, rfl⟩
  clear cc
  go_wp2_with fail
  go_ret
  exact ⟨rfl, rfl⟩
/-- The function literal inside shareBase: is the number among the other's base tinctures (the slice lies in a box). -/
theorem lit_any (Y : List Int) (x : Int) (m q : Nat) (a : Option Addr) (c : Nat) (w : World) (hq : w.cell? ⟨q, 0, none⟩ = some (.slice a m c)) (h : RdI w a m Y) (hm : m ≤ 1048577) :
    Calls Tryd.prog 33 #[.int .i64 x, .pointer (some ⟨q, 0, none⟩)] w fun e w' => e = .returned (.bool (Y.contains x)) ∧ w = w' := by
  have cc := contains_any Y x m a c w h hm
  obtain ⟨r, hr⟩ : ∃ r, Y.contains x = r := ⟨_, rfl⟩
  rw [hr] at cc ⊢
  clear hr h
  go_enter Tryd.func33, Tryd.ntmps33
  go_wp2_with fail
  refine cc.mono ?_
  rintro e w' ⟨rfl, rfl⟩
  clear cc
  go_wp2_with fail
  go_ret
  exact ⟨rfl, rfl⟩
theorem any_hit {X : List Int} {p : Int → Bool} {k : Nat} {x : Int} (hx : X[k]? = some x) (h : p x = true) : X.any p = true := List.any_eq_true.2 ⟨x, List.mem_of_getElem? hx, h⟩
theorem any_step {X : List Int} {p : Int → Bool} {k : Nat} {y : Int} (hx : X[k]? = some y) (h : (X.take k).any p = false) (hne : p y = false) : (X.take (k + 1)).any p = false := by
  rw [take_succ' hx, List.any_append, h]; simp [hne]
set_option maxHeartbeats 1000000 in
theorem indexFunc_any (X Y : List Int) (n m q : Nat) (a a' : Option Addr) (c c' : Nat) (w : World) (h : RdI w a n X) (hn : n ≤ 1048577) (hq : w.cell? ⟨q, 0, none⟩ = some (.slice a' m c')) (h' : RdI w a' m Y) (hm : m ≤ 1048577) :
    Calls Tryd.prog 36 #[.slice a n c, .func (.func 33) #[] #[.pointer (some ⟨q, 0, none⟩)]] w (Found (X.any fun x => Y.contains x) w) := by
  obtain ⟨r, hr⟩ : ∃ r, X.any (fun x => Y.contains x) = r := ⟨_, rfl⟩
  rw [hr]
  have HR := Lib.hid hr
  have HL := Lib.hid h.1
  have HF0 := fun x => lit_any Y x m q a' c' w hq h' hm
  rcases Nat.eq_zero_or_pos n with hz | hz
  · have HX := Lib.hid (show false = r by
      rw [← hr]
      have : X = [] := List.eq_nil_of_length_eq_zero (by have := h.1; omega)
      rw [this]; rfl)
    subst hz
    clear h hr h'
    go_enter Tryd.func36, Tryd.ntmps36
    go_wp2_with fail
    refine wp_loop_rounds 1 ?_
    rw [rounds_succ]
    go_wp2_with fail
    go_ret
    exact found_at (i := -1) HX.out (by omega)
  · obtain ⟨b, o, rfl, _, hc⟩ := h.2 hz
    have HC := Lib.hid hc
    have HF := Lib.hid HF0
    clear h hr hc h' hq HF0
    go_enter Tryd.func36, Tryd.ntmps36
    go_wp2_with fail
    go_loopw [8] (fun i wr => ∃ k : Nat, k ≤ n ∧ i = .int .i64 k ∧ Hid ((X.take k).any (fun x => Y.contains x) = false) ∧ w = wr) (fun i _ => n - (intOf i).toNat)
    case atStart => exact ⟨0, Nat.zero_le _, rfl, by show _ = _; simp, rfl⟩
    case round =>
      obtain ⟨k, hk, rfl, HT, rfl⟩ := hrel
      by_cases hlt : k < n
      · obtain ⟨y, hy, _⟩ := atI_of_lt HL.out hlt
        have hcell := rdI_at HC.out hlt hy
        have HY := Lib.hid hy
        clear hy
        have cc := HF.out y
        cases hs : Y.contains y
        · rw [hs] at cc
          have HT2 := Lib.hid (any_step (p := fun x => Y.contains x) HY.out HT.out hs)
          clear hs
          go_wp2_with fail
          refine cc.mono ?_
          rintro e w' ⟨rfl, rfl⟩
          clear cc
          go_wp2_with fail
          go_roundw
          case rel => exact ⟨k + 1, by omega, by go_num, HT2, trivial⟩
          case measure => simp [intOf]; omega
        · rw [hs] at cc
          have HT2 := Lib.hid (show true = r from (any_hit (p := fun x => Y.contains x) HY.out hs).symm.trans HR.out)
          clear hs
          go_wp2_with fail
          refine cc.mono ?_
          rintro e w' ⟨rfl, rfl⟩
          clear cc
          go_wp2_with fail
          go_ret
          exact found_at (by rw [← HT2.out]; simp) (by omega)
      · have HT2 := Lib.hid (show false = r by
          have h1 := HT.out
          rw [List.take_of_length_le (by have := HL.out; omega), HR.out] at h1
          exact h1.symm)
        go_wp2_with fail
        go_ret
        exact found_at (i := -1) HT2.out (by omega)
theorem containsFunc_any (X Y : List Int) (n m q : Nat) (a a' : Option Addr) (c c' : Nat) (w : World) (h : RdI w a n X) (hn : n ≤ 1048577) (hq : w.cell? ⟨q, 0, none⟩ = some (.slice a' m c')) (h' : RdI w a' m Y) (hm : m ≤ 1048577) (r : Bool) (hr : (X.any fun x => Y.contains x) = r) :
    Calls Tryd.prog 32 #[.slice a n c, .func (.func 33) #[] #[.pointer (some ⟨q, 0, none⟩)]] w fun e w' => e = .returned (.bool r) ∧ w = w' := by
  have cc := indexFunc_any X Y n m q a a' c c' w h hn hq h' hm
  rw [hr] at cc
  clear hr h h' hq
  go_enter Tryd.func32, Tryd.ntmps32
  go_wp2_with fail
  refine cc.mono ?_
  rintro e w' ⟨i, rfl, hi, hi1, rfl⟩
  clear cc
  go_wp2_with fail
  go_ret
  exact ⟨rfl, rfl⟩

def shareB (a b : Int) : Bool := (baseL a).any fun x => (baseL b).contains x
set_option maxHeartbeats 1000000 in
theorem share_any (a b : Int) (w : World) (a0 : 1 ≤ a) (a1 : a ≤ 9) (b0 : 1 ≤ b) (b1 : b ≤ 9) :
    Calls Tryd.prog 25 #[.int .i64 a, .int .i64 b] w fun e w' => e = .returned (.bool (shareB a b)) ∧ Below w.heap.size w w' := by
  have c1 := base_impl a w a0 a1
  have c2 := fun W => base_impl b W b0 b1
  obtain ⟨r, hr⟩ : ∃ r, shareB a b = r := ⟨_, rfl⟩
  rw [hr]
  have HR := Lib.hid hr
  clear hr a0 a1 b0 b1
  have l1 := base_len a
  have l2 := base_len b
  go_enter Tryd.func25, Tryd.ntmps25
  go_wp2_with fail
  refine c1.mono ?_
  rintro e W1 ⟨x, cx, rfl, ho1, hb1⟩
  go_wp2_with fail
  refine (c2 _).mono ?_
  rintro e W2 ⟨y, cy, rfl, ho2, hb2⟩
  have R1 := Lib.hid ((ho1.rd.below hb2).below ((Below.refl _ W2).alloc (Nat.le_refl _) (.cells #[.slice y (baseL b).length cy] 34 (0, 0))))
  have R2 := Lib.hid (ho2.rd.below ((Below.refl _ W2).alloc (Nat.le_refl _) (.cells #[.slice y (baseL b).length cy] 34 (0, 0))))
  have HB := Lib.hid ((hb1.trans (hb2.mono hb1.size)).alloc (Nat.le_trans hb1.size hb2.size) (.cells #[.slice y (baseL b).length cy] 34 (0, 0)))
  clear c1 c2 ho1 ho2 hb1 hb2
  go_wp2_with fail
  refine (containsFunc_any (baseL a) (baseL b) (baseL a).length (baseL b).length W2.heap.size x y cx cy _ R1.out (by omega) (cell_one_new W2 _ _ 0 _ rfl) R2.out (by omega) r HR.out).mono ?_
  rintro e w' ⟨rfl, rfl⟩
  go_wp2_with fail
  go_ret
  exact ⟨rfl, HB.out⟩
end Go.Proofs.YtflfdngcgebmmaaDoor
