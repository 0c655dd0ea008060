/- Contracts: the laws' eqStringS, markStringS and heldStringS, at slices of strings. -/
import Derived.Test.YtklfkdmmclomoaaDoorMarkText
import Derived.OwnWalk
import Derived.Laws.OwnMore
import Derived.Deep.QuietTactic
import Derived.Deep.RegionWith
import Derived.Deep.LoopGhost
import Derived.BigQuiet
namespace Go.Proofs.YtklfkdmmclomoaaDoor
open Go.RowKit

/-- The slice of address a and length n reads as these strings; its cells are old ones. -/
def RdS (w : World) (a : Option Addr) (n : Nat) (xs : List ByteArray) : Prop :=
  xs.length = n ∧ (0 < n → ∃ b o, a = some ⟨b, o, none⟩ ∧ b < w.heap.size ∧ ∀ k, k < n → w.cell? ⟨b, o + k, none⟩ = some (.string (xs.getD k ByteArray.empty)))
theorem RdS.below {w w' : World} {a : Option Addr} {n : Nat} {xs : List ByteArray} (h : RdS w a n xs) (hb : Below w.heap.size w w') : RdS w' a n xs :=
  ⟨h.1, fun hn => by
    obtain ⟨b, o, e, hlt, hc⟩ := h.2 hn
    exact ⟨b, o, e, Nat.lt_of_lt_of_le hlt hb.size, fun k hk => (hb.cell (p := ⟨b, o + k, none⟩) hlt).trans (hc k hk)⟩⟩
theorem RdS.drewN {w : World} {a : Option Addr} {n : Nat} {xs : List ByteArray} (h : RdS w a n xs) (m : Nat) : RdS (w.drewN m) a n xs := h

set_option maxHeartbeats 1000000 in
theorem eqStringS_true (xs : List ByteArray) (n : Nat) (a1 a2 : Option Addr) (c1 c2 : Nat) (w : World) (h1 : RdS w a1 n xs) (h2 : RdS w a2 n xs) (hn : n ≤ 1048577) :
    Calls Tryd.prog 36 #[.slice a1 n c1, .slice a2 n c2] w fun e w' => e = .returned (.bool true) ∧ ∃ m, w' = w.drewN m := by
  rcases Nat.eq_zero_or_pos n with h0 | h0
  · subst h0
    clear h1 h2
    go_enter Tryd.func36, Tryd.ntmps36
    go_wp2
    refine wp_loop_rounds 1 ?_
    rw [rounds_succ]
    go_wp2
    go_ret
    exact ⟨rfl, 0, rfl⟩
  · obtain ⟨b1, o1, rfl, _, hc1⟩ := h1.2 h0
    obtain ⟨b2, o2, rfl, _, hc2⟩ := h2.2 h0
    clear h1 h2
    have H1 := Lib.hid hc1
    have H2 := Lib.hid hc2
    clear hc1 hc2
    go_enter Tryd.func36, Tryd.ntmps36
    go_wp2
    go_loopw [5] (fun i wr => ∃ k q : Nat, k ≤ n ∧ i = .int .i64 k ∧ wr = w.drewN q) (fun i _ => n - (intOf i).toNat)
    case atStart => exact ⟨0, 0, Nat.zero_le _, rfl, rfl⟩
    case round =>
      obtain ⟨k, q, hk, rfl, rfl⟩ := hrel
      by_cases hlt : k < n
      · have g1 := H1.out k hlt
        have g2 := H2.out k hlt
        go_wp2
        go_quiet (fail)
        go_wp2
        go_roundw
        case rel => exact ⟨k + 1, _, by omega, by go_num, rfl⟩
        case measure => simp [intOf]; omega
      · go_wp2
        go_ret
        exact ⟨rfl, q, rfl⟩

theorem markText_at (x : Int) (K : Nat) (hx : x = (K : Int)) (w : World) (h0 : 1 ≤ K) (h1 : K ≤ 1000000000) :
    Calls Tryd.prog 74 #[.int .i64 x] w fun e w' => e = .returned (.string (mtext K)) ∧ Below w.heap.size w w' := by subst hx; exact markText_any K w h0 h1

/-- The cells behind j marks. -/
def marked (k0 : Nat) (xs : List Value) (j : Nat) : List Value := (List.range j).map (fun i => Value.string (mtext (k0 + i))) ++ xs.drop j
theorem marked_zero (k0 : Nat) (xs : List Value) : marked k0 xs 0 = xs := by simp [marked]
theorem marked_at {k0 : Nat} {xs : List Value} {j : Nat} (h : j < xs.length) : ∃ u, (marked k0 xs j)[j]? = some u := by
  refine ⟨xs[j], ?_⟩
  unfold marked
  rw [List.getElem?_append_right (by simp)]
  simp
theorem marked_set {k0 : Nat} {xs : List Value} {j : Nat} (h : j < xs.length) : (marked k0 xs j).set j (.string (mtext (k0 + j))) = marked k0 xs (j + 1) := by
  unfold marked
  rw [List.set_append_right _ _ (by simp), List.range_succ]
  simp only [List.length_map, List.length_range, Nat.sub_self, List.map_append, List.map_cons, List.map_nil, List.append_assoc, List.cons_append, List.nil_append]
  rw [List.drop_eq_getElem_cons h]
  rfl
theorem grown_of_below {w w' : World} (hb : Below w.heap.size w w') (row : Option Nat) : w.grownBy w' row := ⟨hb.os, hb.tape, hb.output, hb.size, fun i hi _ => hb.block i hi⟩

set_option maxHeartbeats 1000000 in
theorem markStringS_any (xs : List Value) (n g cap B k0 : Nat) (w : World) (hown : w.ownsRow B 9 1 (.slice (some ⟨g, 0, none⟩) n cap) n xs) (hn : n ≤ 1048577) (hk0 : 1 ≤ k0) (hk1 : k0 ≤ 100000000) :
    Calls Tryd.prog 37 #[.slice (some ⟨g, 0, none⟩) n cap, .int .i64 (k0 : Int)] w fun e w' => e = .returned (.int .i64 ((k0 : Int) + n)) ∧ w'.ownsRow B 9 1 (.slice (some ⟨g, 0, none⟩) n cap) n (marked k0 xs n) ∧ w.grownBy w' (some g) := by
  have hlen : xs.length = n := by have := hown.1; omega
  go_enter Tryd.func37, Tryd.ntmps37
  go_wp2
  go_loopg [1, 5] n (fun gh kk i wr => ∃ j : Nat, j + gh = n ∧ i = .int .i64 j ∧ kk = .int .i64 ((k0 : Int) + j) ∧ wr.ownsRow B 9 1 (.slice (some ⟨g, 0, none⟩) n cap) n (marked k0 xs j) ∧ w.grownBy wr (some g))
  case atStart => exact ⟨0, by omega, rfl, by simp, by rw [marked_zero]; exact hown, World.grownBy.refl _ _⟩
  case round =>
    obtain ⟨j, hj, rfl, rfl, ho, hgr⟩ := hrel
    by_cases hlt : j < n
    · obtain ⟨gh, rfl⟩ : ∃ gh, gk = gh + 1 := ⟨gk - 1, by omega⟩
      obtain ⟨u0, hu⟩ := marked_at (k0 := k0) (xs := xs) (j := j) (by omega)
      have HU := Lib.hid hu
      have HL := Lib.hid hlen
      clear hu hlen hown
      go_wp2_with (go_at_call 74; refine (markText_at _ (k0 + j) (by omega) _ (by omega) (by omega)).mono ?_; rintro e w1 ⟨rfl, hb1⟩; have ho1 := ho.kept (grown_of_below hb1 none) (.inr (by simp [Value.ownBlock])); have hc1 := (ho1.cellAt j (by omega)).trans HU.out; have hf1 := ho1.frozenAt j)
      have hst := ho1.stored j (.string (mtext (k0 + j)))
      go_roundg gh
      case measure => omega
      case rel => exact ⟨j + 1, by omega, by go_num, by go_num, by rw [← marked_set (by have := HL.out; omega)]; exact hst.1, (hgr.trans (grown_of_below hb1 _)).trans hst.2⟩
    · obtain rfl : j = n := by omega
      go_wp2
      go_ret
      exact ⟨rfl, ho, hgr⟩

theorem marked_all {k0 n : Nat} {xs : List Value} (h : xs.length = n) : marked k0 xs n = (List.range n).map (fun i => Value.string (mtext (k0 + i))) := by
  unfold marked; rw [List.drop_eq_nil_of_le (by omega), List.append_nil]

set_option maxHeartbeats 1000000 in
theorem heldStringS_any (n k0 : Nat) (a : Option Addr) (c : Nat) (w : World) (h : RdS w a n ((List.range n).map fun i => mtext (k0 + i))) (hn : n ≤ 1048577) (hk0 : 1 ≤ k0) (hk1 : k0 ≤ 100000000) :
    Calls Tryd.prog 38 #[.slice a n c, .int .i64 (k0 : Int)] w fun e w' => e = .returned (.int .i64 ((k0 : Int) + n)) ∧ Below w.heap.size w w' := by
  rcases Nat.eq_zero_or_pos n with h0 | h0
  · subst h0
    clear h
    go_enter Tryd.func38, Tryd.ntmps38
    go_wp2
    refine wp_loop_rounds 1 ?_
    rw [rounds_succ]
    go_wp2
    go_ret
    exact ⟨by simp, Below.refl _ _⟩
  · obtain ⟨b, o, rfl, hlt0, hc⟩ := h.2 h0
    clear h
    have hc' : ∀ k, k < n → w.cell? ⟨b, o + k, none⟩ = some (.string (mtext (k0 + k))) := fun k hk => by
      rw [hc k hk]
      simp [List.getD, hk]
    have H := Lib.hid hc'
    clear hc hc'
    go_enter Tryd.func38, Tryd.ntmps38
    go_wp2
    go_loopg [1, 5] n (fun gh kk i wr => ∃ j : Nat, j + gh = n ∧ i = .int .i64 j ∧ kk = .int .i64 ((k0 : Int) + j) ∧ Below w.heap.size w wr)
    case atStart => exact ⟨0, by omega, rfl, by simp, Below.refl _ _⟩
    case round =>
      obtain ⟨j, hj, rfl, rfl, hb⟩ := hrel
      by_cases hlt : j < n
      · obtain ⟨gh, rfl⟩ : ∃ gh, gk = gh + 1 := ⟨gk - 1, by omega⟩
        have g1 := (hb.cell (p := ⟨b, o + j, none⟩) hlt0).trans (H.out j hlt)
        have g2 : ∀ w1, Below wr.heap.size wr w1 → w1.cell? ⟨b, o + j, none⟩ = some (.string (mtext (k0 + j))) := fun w1 hw1 => (hw1.cell (p := ⟨b, o + j, none⟩) (Nat.lt_of_lt_of_le hlt0 hb.size)).trans g1
        go_wp2
        go_region_with (go_at_call 74; refine (markText_at _ (k0 + j) (by omega) _ (by omega) (by omega)).mono ?_; rintro e w1 ⟨rfl, hb1⟩; have g3 := g2 w1 ⟨hb1.os, hb1.tape, hb1.output, hb1.size, hb1.block⟩)
        all_goals
          go_wp2
          go_roundg gh
          case measure => omega
          case rel => exact ⟨j + 1, by omega, by go_num, by go_num, hb.trans ((show Below wr.heap.size wr w1 from ⟨hb1.os, hb1.tape, hb1.output, hb1.size, hb1.block⟩).mono hb.size)⟩
      · obtain rfl : j = n := by omega
        go_wp2
        go_ret
        exact ⟨rfl, hb⟩
end Go.Proofs.YtklfkdmmclomoaaDoor
