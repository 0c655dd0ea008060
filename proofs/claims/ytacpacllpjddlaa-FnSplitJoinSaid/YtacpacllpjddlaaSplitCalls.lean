/- Contracts: SplitString of the program and of the model as plain calls, and what the law asks of the helpers. -/
import Derived.Test.YtacpacllpjddlaaSplitGo
import Derived.Test.YtacpacllpjddlaaStrs
namespace Go.Proofs.Ytacpacllpjddlaa
open Go.RowKit

/-- The value is a slice of the call's own that holds these strings. -/
def Gives (w : World) (X : List ByteArray) (N : Nat) (e : Ending) (w' : World) : Prop :=
  ∃ g cap, e = .returned (.tuple #[.slice (some ⟨g, 0, none⟩) N cap, .bool true]) ∧ w'.ownsRow w.heap.size 9 1 (.slice (some ⟨g, 0, none⟩) N cap) N (X.map Value.string) ∧ Below w.heap.size w w'
theorem gives_of {w w' : World} {xs : List (List UInt8)} {v : Value} (h : OwnStrs w xs v w') : Gives w (xs.map strOf) xs.length (.returned (.tuple #[v, .bool true])) w' := by
  obtain ⟨g, cap, rfl, ho, hb⟩ := h
  refine ⟨g, cap, rfl, ?_, hb⟩
  rw [List.map_map]
  exact ho
theorem rd_of_own {w : World} {B g N cap : Nat} {X : List ByteArray} (h : w.ownsRow B 9 1 (.slice (some ⟨g, 0, none⟩) N cap) N (X.map Value.string)) : RdS w (some ⟨g, 0, none⟩) N X := by
  have hl : X.length = N := by have := h.1; simpa using this
  refine ⟨hl, fun _ => ⟨g, 0, rfl, (h.lt g rfl).2, fun k hk => ?_⟩⟩
  rw [Nat.zero_add, h.cellAt k (by omega)]
  simp [List.getD, hl, hk]

theorem splitImpl_yes (s : ByteArray) (c : UInt8) (hs : s.size ≤ 4000) (w : World) :
    Calls Try.prog 10 #[.string s, .string ⟨#[c]⟩] w (Gives w ((splitL c s.data.toList).map strOf) (splitL c s.data.toList).length) :=
  (callsIn_wide.1 (splitImpl_in Fence.wide 6 trivial trivial trivial rfl (by omega) s c hs w)).mono fun e w' ⟨v, he, h⟩ => by rw [he]; exact gives_of h

theorem one_byte {s : ByteArray} (h : s.size = 1) : ∃ c, s = ⟨#[c]⟩ := by
  obtain ⟨⟨l⟩⟩ := s
  match l, h with
  | [c], _ => exact ⟨c, rfl⟩

theorem splitImpl_no (s sep : ByteArray) (w : World) (h : (4000 : Int) < (s.size : Int) ∨ sep.size ≠ 1) :
    Calls Try.prog 10 #[.string s, .string sep] w fun e w' => e = .returned (.tuple #[.slice none 0 0, .bool false]) ∧ w = w' := by
  by_cases h0 : (4000 : Int) < (s.size : Int)
  · have e0 : decide ((4000 : Int) < (s.size : Int)) = true := by simp; omega
    clear h
    go_enter Try.func10, Try.ntmps10
    go_wp2
    go_ret2
    exact ⟨rfl, rfl⟩
  · have e0 : decide ((4000 : Int) < (s.size : Int)) = false := by simp; omega
    have e1 : ((sep.size : Int) == 1) = false := by simp; omega
    have e2 : ((sep.size : Int) != 1) = true := by simp; omega
    clear h
    go_enter Try.func10, Try.ntmps10
    go_wp2
    go_ret2
    exact ⟨rfl, rfl⟩

theorem splitSpec_yes (s : ByteArray) (c : UInt8) (hs : s.size ≤ 4000) (w : World) :
    Calls Try.prog 17 #[.string s, .string ⟨#[c]⟩] w (Gives w ((splitL c s.data.toList).map strOf) (splitL c s.data.toList).length) := by
  have e0 : decide ((4000 : Int) < (s.size : Int)) = false := by simp; omega
  have c1 := l1Split_any s c w (by omega)
  have hcc : (({ data := #[c] } : ByteArray)[0]'(Nat.zero_lt_one)).toNat = c.toNat := rfl
  go_enter Try.func17, Try.ntmps17
  go_wp2_with (go_at_call 33; refine c1.mono ?_; rintro e w' ⟨v, rfl, hv⟩)
  go_ret2
  exact gives_of hv

theorem splitSpec_no (s sep : ByteArray) (w : World) (h : (4000 : Int) < (s.size : Int) ∨ sep.size ≠ 1) :
    Calls Try.prog 17 #[.string s, .string sep] w fun e w' => e = .returned (.tuple #[.slice (some ⟨w.heap.size, 0, none⟩) 0 0, .bool false]) ∧ Below w.heap.size w w' := by
  by_cases h1 : sep.size = 1
  · obtain ⟨c, rfl⟩ := one_byte h1
    have e0 : decide ((4000 : Int) < (s.size : Int)) = true := by
      rcases h with h | h
      · simp; omega
      · exact absurd h1 h
    clear h
    go_enter Try.func17, Try.ntmps17
    go_wp2
    go_ret2
    exact ⟨rfl, (Below.refl _ _).alloc (Nat.le_refl _) _⟩
  · have e1 : ((sep.size : Int) == 1) = false := by simp; omega
    have e2 : ((sep.size : Int) != 1) = true := by simp; omega
    clear h h1
    go_enter Try.func17, Try.ntmps17
    go_wp2
    go_ret2
    exact ⟨rfl, (Below.refl _ _).alloc (Nat.le_refl _) _⟩

theorem mark1 (X : List ByteArray) (n g cap B : Nat) (w : World) (hown : w.ownsRow B 9 1 (.slice (some ⟨g, 0, none⟩) n cap) n (X.map Value.string)) (hn : n ≤ 1048577) :
    Calls Try.prog 19 #[.slice (some ⟨g, 0, none⟩) n cap, .int .i64 1] w fun e w' => e = .returned (.int .i64 (1 + (n : Int))) ∧ w'.ownsRow B 9 1 (.slice (some ⟨g, 0, none⟩) n cap) n (((List.range n).map fun i => mtext (1 + i)).map Value.string) ∧ w.grownBy w' (some g) :=
  (show Calls Try.prog 19 #[.slice (some ⟨g, 0, none⟩) n cap, .int .i64 1] w _ from markStringS_any (X.map Value.string) n g cap B 1 w hown hn (by omega) (by omega)).mono fun e w' ⟨he, ho, hg⟩ => ⟨he, by
    rw [marked_all (by have := hown.1; omega)] at ho
    rw [List.map_map]; exact ho, hg⟩
theorem mark1_nil (a : Option Addr) (c : Nat) (w : World) :
    Calls Try.prog 19 #[.slice a 0 c, .int .i64 1] w fun e w' => e = .returned (.int .i64 1) ∧ w = w' := by
  go_enter Try.func19, Try.ntmps19
  go_wp2
  refine wp_loop_rounds 1 ?_
  rw [rounds_succ]
  go_wp2
  go_ret
  exact ⟨rfl, rfl⟩
theorem held1 (n : Nat) (a : Option Addr) (c : Nat) (w : World) (h : RdS w a n ((List.range n).map fun i => mtext (1 + i))) (hn : n ≤ 1048577) :
    Calls Try.prog 20 #[.slice a n c, .int .i64 1] w fun e w' => e = .returned (.int .i64 (1 + (n : Int))) ∧ Below w.heap.size w w' := heldStringS_any n 1 a c w h hn (by omega) (by omega)
theorem held1_nil (a : Option Addr) (c : Nat) (w : World) :
    Calls Try.prog 20 #[.slice a 0 c, .int .i64 1] w fun e w' => e = .returned (.int .i64 1) ∧ w = w' := by
  go_enter Try.func20, Try.ntmps20
  go_wp2
  refine wp_loop_rounds 1 ?_
  rw [rounds_succ]
  go_wp2
  go_ret
  exact ⟨rfl, rfl⟩
end Go.Proofs.Ytacpacllpjddlaa
