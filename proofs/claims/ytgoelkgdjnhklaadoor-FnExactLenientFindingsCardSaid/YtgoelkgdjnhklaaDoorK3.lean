/- Several small texts in one: GText. -/
import Derived.Test.YtgoelkgdjnhklaaDoorKW
import Derived.Test.YtgoelkgdjnhklaaDoorKC
import Derived.Deep.RegionWith
import Derived.Deep.RegionHeld3
namespace Go.Proofs.YtgoelkgdjnhklaaDoor
open Go.RowKit

def kindL : List ByteArray := [⟨#[108, 105, 111, 110]⟩, ⟨#[101, 97, 103, 108, 101]⟩, ⟨#[102, 105, 115, 104]⟩, ⟨#[114, 111, 115, 101]⟩, ⟨#[115, 116, 97, 114]⟩, ⟨#[116, 111, 119, 101, 114]⟩, ⟨#[107, 101, 121]⟩, ⟨#[115, 119, 111, 114, 100]⟩]
def kindN (i : Nat) : ByteArray := kindL.getD i ByteArray.empty
def countL : List ByteArray := [⟨#[97]⟩, ⟨#[116, 119, 111]⟩, ⟨#[116, 104, 114, 101, 101]⟩, ⟨#[102, 111, 117, 114]⟩, ⟨#[102, 105, 118, 101]⟩, ⟨#[115, 105, 120]⟩]
def countN (i : Nat) : ByteArray := countL.getD i ByteArray.empty
def attL : List ByteArray := [⟨#[114, 97, 109, 112, 97, 110, 116]⟩, ⟨#[112, 97, 115, 115, 97, 110, 116]⟩, ⟨#[100, 105, 115, 112, 108, 97, 121, 101, 100]⟩, ⟨#[114, 105, 115, 105, 110, 103]⟩, ⟨#[115, 119, 105, 109, 109, 105, 110, 103]⟩, ⟨#[117, 112, 114, 105, 103, 104, 116]⟩]
/-- The word of the attitude a (1 or 2) of the kind k (1, 2 or 3). -/
def attN (k a : Nat) : ByteArray := attL.getD (2 * (k - 1) + (a - 1)) ByteArray.empty
/-- The word of a kind for so many charges. -/
def kwordN (k c : Nat) : ByteArray := if 1 < c ∧ k ≠ 3 then kindN (k - 1) ++ ⟨#[115]⟩ else kindN (k - 1)
def artN (c k : Nat) : ByteArray := if c = 1 ∧ k = 2 then ⟨#[97, 110]⟩ else countN (c - 1)
/-- The text of a group without its tincture, and with it. -/
def bareN (c k a : Nat) : ByteArray := if a = 0 then artN c k ++ ⟨#[32]⟩ ++ kwordN k c else artN c k ++ ⟨#[32]⟩ ++ kwordN k c ++ ⟨#[32]⟩ ++ attN k a
def gtextN (c k a i : Nat) : ByteArray := bareN c k a ++ ⟨#[32]⟩ ++ wordN i
theorem kwordN_size {k c : Nat} (h : k ≤ 8) (h1 : 1 ≤ k) : (kwordN k c).size ≤ 6 := by
  unfold kwordN
  rcases (show k = 1 ∨ k = 2 ∨ k = 3 ∨ k = 4 ∨ k = 5 ∨ k = 6 ∨ k = 7 ∨ k = 8 by omega) with rfl | rfl | rfl | rfl | rfl | rfl | rfl | rfl <;> split <;> decide
theorem artN_size {c k : Nat} (h1 : 1 ≤ c) (h : c ≤ 6) : (artN c k).size ≤ 5 := by
  unfold artN
  split
  · decide
  · rcases (show c = 1 ∨ c = 2 ∨ c = 3 ∨ c = 4 ∨ c = 5 ∨ c = 6 by omega) with rfl | rfl | rfl | rfl | rfl | rfl <;> decide
theorem attN_size {k a : Nat} (h1 : 1 ≤ k) (h : k ≤ 3) (h2 : 1 ≤ a) (h3 : a ≤ 2) : (attN k a).size ≤ 9 := by
  rcases (show k = 1 ∨ k = 2 ∨ k = 3 by omega) with rfl | rfl | rfl <;> rcases (show a = 1 ∨ a = 2 by omega) with rfl | rfl <;> decide
theorem bareN_size {c k a : Nat} (h1 : 1 ≤ c) (h2 : c ≤ 6) (h3 : 1 ≤ k) (h4 : k ≤ 8) (h5 : a ≤ 2) (h6 : a = 0 ∨ k ≤ 3) : (bareN c k a).size ≤ 22 := by
  have e1 := artN_size (k := k) h1 h2
  have e2 := kwordN_size (c := c) h4 h3
  have e3 : (ByteArray.mk #[32]).size = 1 := rfl
  unfold bareN
  split
  · simp only [ByteArray.size_append]; omega
  · have e4 := attN_size (k := k) (a := a) h3 (by omega) (by omega) h5
    simp only [ByteArray.size_append]; omega

set_option maxHeartbeats 4000000 in
theorem l4Word_any (k c : Nat) (w : World) (hk1 : 1 ≤ k) (hk : k ≤ 8) (hc1 : 1 ≤ c) (hc : c ≤ 6) :
    Calls Tryd.prog 171 #[.int .i64 (k : Int), .int .i64 (c : Int)] w fun e w' => e = .returned (.string (kwordN k c)) ∧ Below w.heap.size w w' := by
  obtain ⟨x, hx⟩ : ∃ x : Int, x = (k : Int) := ⟨_, rfl⟩
  rw [← hx]
  have hw : kwordN k c = kwordN x.toNat c := by rw [show x.toNat = k by omega]
  rw [hw]
  obtain ⟨b, hb⟩ : ∃ b, decide ((1 : Int) < (c : Int)) = b := ⟨_, rfl⟩
  rcases (show x = 1 ∨ x = 2 ∨ x = 3 ∨ x = 4 ∨ x = 5 ∨ x = 6 ∨ x = 7 ∨ x = 8 by omega) with rfl | rfl | rfl | rfl | rfl | rfl | rfl | rfl
  all_goals
    clear hx hw
    cases b
    · have hcc : ¬ 1 < c := by have := of_decide_eq_false hb; omega
      have HC := Lib.hid hcc
      clear hcc
      go_enter Tryd.func171, Tryd.ntmps171
      go_wp2_with fail
      go_ret
      exact ⟨by unfold kwordN; rw [if_neg (fun e => HC.out e.1)]; rfl, (Below.refl _ _).alloc (Nat.le_refl _) _⟩
    · have hcc : 1 < c := by have := of_decide_eq_true hb; omega
      have HC := Lib.hid hcc
      clear hcc
      go_enter Tryd.func171, Tryd.ntmps171
      go_wp2_with fail
      go_ret
      exact ⟨by unfold kwordN; first | (rw [if_pos ⟨HC.out, by decide⟩]; rfl) | (rw [if_neg (fun e => e.2 rfl)]; rfl), (Below.refl _ _).alloc (Nat.le_refl _) _⟩
theorem l4Attitudes_any (k : Nat) (w : World) (h1 : 1 ≤ k) (h3 : k ≤ 3) :
    Calls Tryd.prog 172 #[.int .i64 (k : Int)] w fun e w' => e = .returned (.slice (some ⟨w.heap.size, 0, none⟩) 2 2) ∧ w' = w.alloc (.cells #[.string (attN k 1), .string (attN k 2)] 9 (0, 0)) := by
  rcases (show k = 1 ∨ k = 2 ∨ k = 3 by omega) with rfl | rfl | rfl
  all_goals
    clear h1 h3
    go_enter Tryd.func172, Tryd.ntmps172
    go_wp2_with fail
    go_ret
    exact ⟨rfl, rfl⟩
set_option maxHeartbeats 4000000 in
theorem l4Bare_plain (c k : Nat) (t : Int) (w : World) (hc1 : 1 ≤ c) (hc : c ≤ 6) (hk1 : 4 ≤ k) (hk : k ≤ 8) :
    Calls Tryd.prog 158 #[.agg #[.int .i64 (c : Int), .int .i64 (k : Int), .int .i64 0, .int .i64 t]] w fun e w' => e = .returned (.string (bareN c k 0)) ∧ Below w.heap.size w w' := by
  have cw := fun W => l4Word_any k c W (by omega) hk hc1 hc
  have s1 := kwordN_size (c := c) hk (by omega)
  have e2 : ((k : Int) == 2) = false := by rw [beq_eq_false_iff_ne]; omega
  have hb : bareN c k 0 = countN (c - 1) ++ ⟨#[32]⟩ ++ kwordN k c := by unfold bareN artN; rw [if_pos rfl, if_neg (by omega)]
  rw [hb]
  generalize kwordN k c = tK at *
  clear hb
  obtain ⟨x, hx⟩ : ∃ x : Int, x = (c : Int) := ⟨_, rfl⟩
  have hcn : c = x.toNat := by omega
  rw [← hx] at cw ⊢
  rw [hcn]
  rcases (show x = 1 ∨ x = 2 ∨ x = 3 ∨ x = 4 ∨ x = 5 ∨ x = 6 by omega) with rfl | rfl | rfl | rfl | rfl | rfl
  all_goals
    clear hx hcn hc1 hc hk1 hk
    have n1 : ¬ 9223372036854775807 < tK.size + 10 := by omega
    go_enter Tryd.func158, Tryd.ntmps158
    go_wp2_with fail
    refine (cw _).mono ?_
    rintro e w1 ⟨rfl, hb⟩
    obtain ⟨hc', hf'⟩ := bcell hb
    have B := Lib.hid ((((Below.refl _ w).alloc (Nat.le_refl _) _).alloc (by simp) _).trans (hb.mono (by simp; omega)))
    have n2 : ¬ 9223372036854775807 < 2 + tK.size := by omega
    have n3 : ¬ 9223372036854775807 < 4 + tK.size := by omega
    have n4 : ¬ 9223372036854775807 < 5 + tK.size := by omega
    have n5 : ¬ 9223372036854775807 < 6 + tK.size := by omega
    have n6 : ¬ 9223372036854775807 < 3 + tK.size := by omega
    clear hb cw
    go_wp2_with fail
    go_ret
    exact ⟨rfl, B.out⟩
end Go.Proofs.YtgoelkgdjnhklaaDoor
