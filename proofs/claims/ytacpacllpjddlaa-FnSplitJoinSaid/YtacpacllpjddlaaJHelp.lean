/- Contracts: the laws' szStringS and toStringS, at slices of strings. -/
import Derived.Test.YtacpacllpjddlaaStrArg
import Derived.Test.YtacpacllpjddlaaJMath
import Derived.Test.YtacpacllpjddlaaSplit
namespace Go.Proofs.Ytacpacllpjddlaa
open Go.RowKit

theorem rd_at {w : World} {b o n k : Nat} {X : List ByteArray} {x : ByteArray} (hc : ∀ k, k < n → w.cell? ⟨b, o + k, none⟩ = some (.string (X.getD k ByteArray.empty))) (hk : k < n) (hx : X[k]? = some x) :
    w.cell? ⟨b, o + k, none⟩ = some (.string x) := by rw [hc k hk]; simp [List.getD, hx]
theorem at_of_lt {X : List ByteArray} {k n : Nat} (hX : X.length = n) (hk : k < n) : ∃ x, X[k]? = some x ∧ x ∈ X :=
  ⟨X[k]'(by omega), List.getElem?_eq_getElem (by omega), List.getElem_mem _⟩

set_option maxHeartbeats 1000000 in
theorem szStringS_any (X : List ByteArray) (n : Nat) (a : Option Addr) (c : Nat) (w : World) (h : RdS w a n X) (hn : n ≤ maxLen) (hX : ∀ s ∈ X, s.size ≤ maxLen) :
    Calls Try.prog 21 #[.slice a n c, .int .i64 1048576] w fun e w' => (∃ r : Int, e = .returned (.int .i64 r) ∧ (r < 0 ∨ n + blen X ≤ 1048576)) ∧ w = w' := by
  unfold maxLen at hn
  by_cases h0 : (1048576 : Int) - (n : Int) < 0
  · clear h hX
    go_enter Try.func21, Try.ntmps21
    go_wp2
    go_ret
    exact ⟨⟨_, rfl, .inl (by omega)⟩, rfl⟩
  · have hXl := h.1
    rcases Nat.eq_zero_or_pos n with hz | hz
    · subst hz
      have hb0 : blen X = 0 := by rw [List.eq_nil_of_length_eq_zero hXl]; rfl
      have HB := Lib.hid hb0
      clear h hX hb0 hXl h0
      go_enter Try.func21, Try.ntmps21
      go_wp2
      refine wp_loop_rounds 1 ?_
      rw [rounds_succ]
      go_wp2
      go_ret
      exact ⟨⟨_, rfl, .inr (by rw [HB.out]; omega)⟩, rfl⟩
    · obtain ⟨b, o, rfl, _, hc⟩ := h.2 hz
      clear h
      have H := Lib.hid hc
      have HXl := Lib.hid hXl
      have HXs := Lib.hid hX
      clear hc hXl hX
      have hn2 : n ≤ 1048576 := by omega
      go_enter Try.func21, Try.ntmps21
      go_wp2
      go_loopg [1, 5] n (fun g l i wr => ∃ k : Nat, k + g = n ∧ i = .int .i64 k ∧ ∃ z : Nat, l = .int .i64 z ∧ Hid (n + blen (X.take k) + z = 1048576) ∧ z ≤ 1048576 ∧ w = wr)
      case atStart => exact ⟨0, by omega, rfl, 1048576 - n, by go_num, by show _ = _; rw [List.take_zero, blen_nil]; omega, by omega, rfl⟩
      case round =>
        obtain ⟨k, hk, rfl, z, rfl, HZ, hz2, rfl⟩ := hrel
        by_cases hlt : k < n
        · obtain ⟨g, rfl⟩ : ∃ g, gk = g + 1 := ⟨gk - 1, by omega⟩
          obtain ⟨x, hx, hmem⟩ := at_of_lt HXl.out hlt
          have hcell := rd_at H.out hlt hx
          have hxs := HXs.out x hmem
          unfold maxLen at hxs
          have HT := Lib.hid (blen_take_succ hx)
          have HT2 := Lib.hid (blen_take_le X (k + 1))
          clear hx hmem
          by_cases hneg : (z : Int) - (x.size : Int) < 0
          · go_wp2
            go_ret
            exact ⟨⟨_, rfl, .inl (by omega)⟩, rfl⟩
          · go_wp2
            go_roundg g
            case measure => omega
            case rel => exact ⟨k + 1, by omega, by go_num, z - x.size, by go_num, by show _ = _; have h1 := HT.out; have h2 := HZ.out; omega, by omega, rfl⟩
        · obtain rfl : k = n := by omega
          have HT2 := Lib.hid (show X.take k = X from List.take_of_length_le (by have := HXl.out; omega))
          go_wp2
          go_ret
          exact ⟨⟨_, rfl, .inr (by have h2 := HZ.out; rw [HT2.out] at h2; omega)⟩, rfl⟩

def filled (X : List ByteArray) (n k : Nat) : List Value := (X.take k).map Value.string ++ List.replicate (n - k) (.string ByteArray.empty)
theorem filled_len {X : List ByteArray} {n k : Nat} (hX : X.length = n) (hk : k ≤ n) : (filled X n k).length = n := by unfold filled; simp; omega
theorem filled_zero (X : List ByteArray) (n : Nat) : filled X n 0 = List.replicate n (.string ByteArray.empty) := by unfold filled; simp
theorem filled_all {X : List ByteArray} {n : Nat} (hX : X.length = n) : filled X n n = X.map Value.string := by
  unfold filled; rw [List.take_of_length_le (by omega), Nat.sub_self]; simp
theorem filled_set {X : List ByteArray} {n k : Nat} {x : ByteArray} (hX : X.length = n) (hk : k < n) (hx : X[k]? = some x) : (filled X n k).set k (.string x) = filled X n (k + 1) := by
  unfold filled
  have hl : ((X.take k).map Value.string).length = k := by simp; omega
  rw [List.set_append_right _ _ (by omega), hl, Nat.sub_self]
  obtain ⟨m, hm⟩ : ∃ m, n - k = m + 1 := ⟨n - k - 1, by omega⟩
  rw [hm, List.replicate_succ, List.set_cons_zero, show n - (k + 1) = m from by omega, List.take_add_one, hx]
  simp

set_option maxHeartbeats 1000000 in
theorem toStringS_any (X : List ByteArray) (n : Nat) (a : Option Addr) (c : Nat) (w : World) (h : RdS w a n X) (hn : n ≤ 1048576) :
    Calls Try.prog 22 #[.slice a n c] w fun e w' => ∃ g : Nat, e = .returned (.slice (some ⟨g, 0, none⟩) n n) ∧ w'.ownsRow w.heap.size 9 1 (.slice (some ⟨g, 0, none⟩) n n) n (X.map Value.string) ∧ Below w.heap.size w w' := by
  obtain ⟨i0, hi, hz0, hz1, hz2⟩ := info_parts infoS
  have hXl := h.1
  rcases Nat.eq_zero_or_pos n with hz | hz
  · subst hz
    have hX0 : X = [] := List.eq_nil_of_length_eq_zero hXl
    have HX := Lib.hid hX0
    clear h hXl hX0
    go_enter Try.func22, Try.ntmps22
    go_wp2_with (at_make; refine wpList_make_full _ rfl _ _ 26 rfl w.heap.size 9 i0 (.string ByteArray.empty) 1 Try.underlying26 hi hz0 hz1 .i64 .i64 0 0 0 rfl rfl rfl rfl (by rw [hz2]; omega) (by unfold maxLen; omega) (Nat.le_refl _) ?_; intro w1 hown1 hgr1)
    refine wp_loop_rounds 1 ?_
    rw [rounds_succ]
    go_wp2
    go_ret
    exact ⟨_, rfl, by rw [HX.out]; simpa [madeCells] using hown1, (Below.refl _ _).grown hgr1 (Nat.le_refl _) (by simp)⟩
  · obtain ⟨b, o, rfl, hb0, hc⟩ := h.2 hz
    have HC := Lib.hid hc
    have HXl := Lib.hid hXl
    clear h hXl hc
    go_enter Try.func22, Try.ntmps22
    go_wp2_with (at_make; refine wpList_make_full _ rfl _ _ 26 rfl w.heap.size 9 i0 (.string ByteArray.empty) 1 Try.underlying26 hi hz0 hz1 .i64 .i64 (n : Int) (n : Int) n rfl rfl rfl rfl (by rw [hz2]; omega) (by unfold maxLen; omega) (Nat.le_refl _) ?_; intro w1 hown1 hgr1)
    have hfil : w1.ownsRow w.heap.size 9 1 (.slice (some ⟨w.heap.size, 0, none⟩) n n) n (filled X n 0) := by
      rw [filled_zero, ← toList_madeCells_one]
      rw [Nat.mul_one] at hown1
      exact hown1
    have hbel : Below w.heap.size w w1 := (Below.refl _ _).grown hgr1 (Nat.le_refl _) (by simp)
    clear hown1 hgr1
    go_loopg [4] n (fun g i wr => ∃ k : Nat, k + g = n ∧ i = .int .i64 k ∧ wr.ownsRow w.heap.size 9 1 (.slice (some ⟨w.heap.size, 0, none⟩) n n) n (filled X n k) ∧ Below w.heap.size w wr)
    case atStart => exact ⟨0, by omega, rfl, hfil, hbel⟩
    case round =>
      obtain ⟨k, hk, rfl, ho, hb⟩ := hrel
      clear hfil hbel
      by_cases hlt : k < n
      · obtain ⟨g, rfl⟩ : ∃ g, gk = g + 1 := ⟨gk - 1, by omega⟩
        obtain ⟨x, hx, _⟩ := at_of_lt HXl.out hlt
        have hcell : wr.cell? ⟨b, o + k, none⟩ = some (.string x) := (hb.cell (p := ⟨b, o + k, none⟩) hb0).trans (rd_at HC.out hlt hx)
        obtain ⟨u0, hu⟩ : ∃ u, (filled X n k)[k]? = some u := ⟨(filled X n k)[k]'(by rw [filled_len HXl.out (by omega)]; omega), List.getElem?_eq_getElem _⟩
        have hc1 := (ho.cellAt k (by omega)).trans hu
        have hf1 := ho.frozenAt k
        have hst := ho.stored k (.string x)
        have HS := Lib.hid (filled_set HXl.out hlt hx)
        clear hx hu
        have HST := Lib.hid hst
        clear hst
        go_wp2
        go_roundg g
        case measure => omega
        case rel => exact ⟨k + 1, by omega, by go_num, by rw [← HS.out]; exact HST.out.1, hb.grown HST.out.2 hb.size (fun q hq => by cases hq; omega)⟩
      · obtain rfl : k = n := by omega
        go_wp2
        go_ret
        exact ⟨_, rfl, by rw [← filled_all HXl.out]; exact ho, hb⟩
end Go.Proofs.Ytacpacllpjddlaa
