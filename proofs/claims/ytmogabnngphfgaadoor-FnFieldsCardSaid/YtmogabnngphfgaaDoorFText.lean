/- Contracts: the model's text of a field. -/
import Derived.Test.YtmogabnngphfgaaDoorWords
import Derived.Test.YtmogabnngphfgaaDoorFields
import Derived.Deep.RegionWith
import Derived.Deep.RegionHeld3
namespace Go.Proofs.YtmogabnngphfgaaDoor
open Go.RowKit

def divL : List ByteArray := [⟨#[]⟩, ⟨#[112, 101, 114, 32, 112, 97, 108, 101]⟩, ⟨#[112, 101, 114, 32, 102, 101, 115, 115]⟩, ⟨#[112, 101, 114, 32, 98, 101, 110, 100]⟩, ⟨#[113, 117, 97, 114, 116, 101, 114, 108, 121]⟩, ⟨#[112, 101, 114, 32, 115, 97, 108, 116, 105, 114, 101]⟩, ⟨#[112, 97, 108, 121]⟩, ⟨#[98, 97, 114, 114, 121]⟩]
def divN (i : Nat) : ByteArray := divL.getD i ByteArray.empty
def lineL : List ByteArray := [⟨#[]⟩, ⟨#[101, 110, 103, 114, 97, 105, 108, 101, 100]⟩, ⟨#[119, 97, 118, 121]⟩, ⟨#[101, 109, 98, 97, 116, 116, 108, 101, 100]⟩, ⟨#[105, 110, 100, 101, 110, 116, 101, 100]⟩]
def lineN (i : Nat) : ByteArray := lineL.getD i ByteArray.empty
theorem divN_size {i : Nat} (h : i < 8) : (divN i).size ≤ 11 := by
  rcases (show i = 0 ∨ i = 1 ∨ i = 2 ∨ i = 3 ∨ i = 4 ∨ i = 5 ∨ i = 6 ∨ i = 7 by omega) with rfl | rfl | rfl | rfl | rfl | rfl | rfl | rfl <;> decide
theorem lineN_size {i : Nat} (h : i < 5) : (lineN i).size ≤ 9 := by
  rcases (show i = 0 ∨ i = 1 ∨ i = 2 ∨ i = 3 ∨ i = 4 by omega) with rfl | rfl | rfl | rfl | rfl <;> decide
/-- What stands before the tinctures. -/
def headN (d l : Nat) : ByteArray := if l = 0 then divN d else divN d ++ ⟨#[32]⟩ ++ lineN l
theorem headN_size {d l : Nat} (hd : d < 8) (hl : l < 5) : (headN d l).size ≤ 21 := by
  have h1 := divN_size hd
  have h2 := lineN_size hl
  unfold headN
  split
  · omega
  · simp only [ByteArray.size_append]
    have e : (ByteArray.mk #[32]).size = 1 := rfl
    omega
/-- The text of a field. -/
def textN (d l i j : Nat) : ByteArray := if d = 0 then wordN i else headN d l ++ ⟨#[32]⟩ ++ wordN i ++ ⟨#[32, 97, 110, 100, 32]⟩ ++ wordN j

theorem div_cell (w : World) (o : Obj) (d : Nat) (h : d < 8) : ((w.alloc o).alloc (.cells #[.string ⟨#[]⟩, .string ⟨#[112, 101, 114, 32, 112, 97, 108, 101]⟩, .string ⟨#[112, 101, 114, 32, 102, 101, 115, 115]⟩, .string ⟨#[112, 101, 114, 32, 98, 101, 110, 100]⟩, .string ⟨#[113, 117, 97, 114, 116, 101, 114, 108, 121]⟩, .string ⟨#[112, 101, 114, 32, 115, 97, 108, 116, 105, 114, 101]⟩, .string ⟨#[112, 97, 108, 121]⟩, .string ⟨#[98, 97, 114, 114, 121]⟩] 9 (0, 0))).cell? ⟨w.heap.size + 1, d, none⟩ = some (.string (divN d)) := by
  have e : ((w.alloc o).alloc (.cells #[.string ⟨#[]⟩, .string ⟨#[112, 101, 114, 32, 112, 97, 108, 101]⟩, .string ⟨#[112, 101, 114, 32, 102, 101, 115, 115]⟩, .string ⟨#[112, 101, 114, 32, 98, 101, 110, 100]⟩, .string ⟨#[113, 117, 97, 114, 116, 101, 114, 108, 121]⟩, .string ⟨#[112, 101, 114, 32, 115, 97, 108, 116, 105, 114, 101]⟩, .string ⟨#[112, 97, 108, 121]⟩, .string ⟨#[98, 97, 114, 114, 121]⟩] 9 (0, 0))).heap[w.heap.size + 1]? = some (.cells #[.string ⟨#[]⟩, .string ⟨#[112, 101, 114, 32, 112, 97, 108, 101]⟩, .string ⟨#[112, 101, 114, 32, 102, 101, 115, 115]⟩, .string ⟨#[112, 101, 114, 32, 98, 101, 110, 100]⟩, .string ⟨#[113, 117, 97, 114, 116, 101, 114, 108, 121]⟩, .string ⟨#[112, 101, 114, 32, 115, 97, 108, 116, 105, 114, 101]⟩, .string ⟨#[112, 97, 108, 121]⟩, .string ⟨#[98, 97, 114, 114, 121]⟩] 9 (0, 0)) := by
    have h1 := Array.getElem?_push_size (xs := (w.alloc o).heap) (x := Obj.cells #[.string ⟨#[]⟩, .string ⟨#[112, 101, 114, 32, 112, 97, 108, 101]⟩, .string ⟨#[112, 101, 114, 32, 102, 101, 115, 115]⟩, .string ⟨#[112, 101, 114, 32, 98, 101, 110, 100]⟩, .string ⟨#[113, 117, 97, 114, 116, 101, 114, 108, 121]⟩, .string ⟨#[112, 101, 114, 32, 115, 97, 108, 116, 105, 114, 101]⟩, .string ⟨#[112, 97, 108, 121]⟩, .string ⟨#[98, 97, 114, 114, 121]⟩] 9 (0, 0))
    rw [World.size_alloc] at h1
    exact h1
  simp only [World.cell?, e]
  rcases (show d = 0 ∨ d = 1 ∨ d = 2 ∨ d = 3 ∨ d = 4 ∨ d = 5 ∨ d = 6 ∨ d = 7 by omega) with rfl | rfl | rfl | rfl | rfl | rfl | rfl | rfl <;> rfl

set_option maxHeartbeats 1000000 in
theorem l3LineWord_any (l : Nat) (w : World) (h : l < 5) :
    Calls Tryd.prog 47 #[.int .i64 (l : Int)] w fun e w' => e = .returned (.string (lineN l)) ∧ Below w.heap.size w w' := by
  obtain ⟨x, hx⟩ : ∃ x : Int, x = (l : Int) := ⟨_, rfl⟩
  rw [← hx]
  have hw : lineN l = lineN x.toNat := by rw [show x.toNat = l by omega]
  rw [hw]
  rcases (show x = 0 ∨ x = 1 ∨ x = 2 ∨ x = 3 ∨ x = 4 by omega) with rfl | rfl | rfl | rfl | rfl
  all_goals
    clear hx hw
    go_enter Tryd.func47, Tryd.ntmps47
    go_wp2_with fail
    go_ret
    exact ⟨rfl, (Below.refl _ _).alloc (Nat.le_refl _) _⟩
set_option maxHeartbeats 4000000 in
theorem l3Text_plain (l s : Int) (i : Nat) (w : World) (hi : i < 9) :
    Calls Tryd.prog 29 #[.agg #[.int .i64 0, .int .i64 l, .int .i64 ((i : Int) + 1), .int .i64 s]] w fun e w' => e = .returned (.string (wordN i)) ∧ Below w.heap.size w w' := by
  have c := fun W => l2Word_any i W hi
  obtain ⟨t, ht⟩ : ∃ t, wordN i = t := ⟨_, rfl⟩
  rw [ht] at c ⊢
  clear ht
  go_enter Tryd.func29, Tryd.ntmps29
  go_wp2_with fail
  refine (c _).mono ?_
  rintro e w1 ⟨rfl, hb⟩
  have B := Lib.hid (((Below.refl _ w).alloc (Nat.le_refl _) _).trans (hb.mono (by simp)))
  clear hb
  go_wp2_with fail
  go_ret
  exact ⟨rfl, B.out⟩
set_option maxHeartbeats 4000000 in
theorem l3Text_straight (d i j : Nat) (w : World) (hd0 : 1 ≤ d) (hd : d < 8) (hi : i < 9) (hj : j < 9) :
    Calls Tryd.prog 29 #[.agg #[.int .i64 (d : Int), .int .i64 0, .int .i64 ((i : Int) + 1), .int .i64 ((j : Int) + 1)]] w fun e w' => e = .returned (.string (divN d ++ ⟨#[32]⟩ ++ wordN i ++ ⟨#[32, 97, 110, 100, 32]⟩ ++ wordN j)) ∧ Below w.heap.size w w' := by
  have c1 := fun W => l2Word_any i W hi
  have c2 := fun W => l2Word_any j W hj
  have hdc := div_cell w (.cells #[.int .i64 (d : Int), .int .i64 0, .int .i64 ((i : Int) + 1), .int .i64 ((j : Int) + 1)] 25 (0, 0)) d hd
  have s1 := divN_size hd
  have s2 := wordN_size hi
  have s3 := wordN_size hj
  have e0 : ((d : Int) == 0) = false := by rw [beq_eq_false_iff_ne]; omega
  generalize divN d = tD at *
  generalize wordN i = tI at *
  generalize wordN j = tJ at *
  have keep : ∀ (W w1 : World), Below W.heap.size W w1 → W.cell? ⟨w.heap.size, 2, none⟩ = some (.int .i64 ((i : Int) + 1)) ∧ W.cell? ⟨w.heap.size, 3, none⟩ = some (.int .i64 ((j : Int) + 1)) ∧ Below w.heap.size w W → w1.cell? ⟨w.heap.size, 2, none⟩ = some (.int .i64 ((i : Int) + 1)) ∧ w1.cell? ⟨w.heap.size, 3, none⟩ = some (.int .i64 ((j : Int) + 1)) ∧ Below w.heap.size w w1 := fun W w1 hb h =>
    ⟨(hb.cell (p := ⟨w.heap.size, 2, none⟩) (World.block_lt_of_cell? W _ h.1)).trans h.1, (hb.cell (p := ⟨w.heap.size, 3, none⟩) (World.block_lt_of_cell? W _ h.2.1)).trans h.2.1, h.2.2.trans (hb.mono h.2.2.size)⟩
  have C1 := Lib.hid (fun W h => (c1 W).mono (fun e w' (hh : e = Ending.returned (.string tI) ∧ Below W.heap.size W w') => (⟨hh.1, keep W w' hh.2 h⟩ : e = Ending.returned (.string tI) ∧ _)))
  have C2 := Lib.hid (fun W h => (c2 W).mono (fun e w' (hh : e = Ending.returned (.string tJ) ∧ Below W.heap.size W w') => (⟨hh.1, keep W w' hh.2 h⟩ : e = Ending.returned (.string tJ) ∧ _)))
  clear c1 c2 keep
  go_enter Tryd.func29, Tryd.ntmps29
  have n1 : ¬ 9223372036854775807 < tD.size + 1 := by omega
  have n2 : ¬ 9223372036854775807 < tD.size + 1 + tI.size := by omega
  have n3 : ¬ 9223372036854775807 < tD.size + 1 + tI.size + 5 := by omega
  have n4 : ¬ 9223372036854775807 < tD.size + 1 + tI.size + 5 + tJ.size := by omega
  have gB := (((Below.refl w.heap.size w).alloc (Nat.le_refl _) (.cells #[.int .i64 (d : Int), .int .i64 0, .int .i64 ((i : Int) + 1), .int .i64 ((j : Int) + 1)] 25 (0, 0))).alloc (by simp) (.cells #[.string ⟨#[]⟩, .string ⟨#[112, 101, 114, 32, 112, 97, 108, 101]⟩, .string ⟨#[112, 101, 114, 32, 102, 101, 115, 115]⟩, .string ⟨#[112, 101, 114, 32, 98, 101, 110, 100]⟩, .string ⟨#[113, 117, 97, 114, 116, 101, 114, 108, 121]⟩, .string ⟨#[112, 101, 114, 32, 115, 97, 108, 116, 105, 114, 101]⟩, .string ⟨#[112, 97, 108, 121]⟩, .string ⟨#[98, 97, 114, 114, 121]⟩] 9 (0, 0))).drew
  go_wp2_with fail
  go_region_held3 (fun w' => w'.cell? ⟨w.heap.size, 2, none⟩ = some (.int .i64 ((i : Int) + 1)) ∧ w'.cell? ⟨w.heap.size, 3, none⟩ = some (.int .i64 ((j : Int) + 1)) ∧ Below w.heap.size w w')
    (first | go_keep | exact ⟨h2, h3, hb⟩ | exact ⟨k2, k3, kb⟩ | exact ⟨h2, h3, hb.drew⟩ | exact ⟨k2, k3, kb.drew⟩ | (refine ⟨?_, ?_, gB⟩ <;> go_keep))
    (first
      | (go_at_call 46; (with_reducible refine (C1.out _ ?_).mono ?_); (first | assumption | simp [*]); rintro e w1 ⟨rfl, h2, h3, hb⟩)
      | (go_at_call 46; (with_reducible refine (C2.out _ ?_).mono ?_); (first | assumption | simp [*]); rintro e w2 ⟨rfl, k2, k3, kb⟩))
  go_wp2_with fail
  go_ret
  exact ⟨rfl, kb⟩
set_option maxHeartbeats 4000000 in
theorem l3Text_lined (d l i j : Nat) (w : World) (hd0 : 1 ≤ d) (hd : d < 8) (hl0 : 1 ≤ l) (hl : l < 5) (hi : i < 9) (hj : j < 9) :
    Calls Tryd.prog 29 #[.agg #[.int .i64 (d : Int), .int .i64 (l : Int), .int .i64 ((i : Int) + 1), .int .i64 ((j : Int) + 1)]] w fun e w' => e = .returned (.string (divN d ++ ⟨#[32]⟩ ++ lineN l ++ ⟨#[32]⟩ ++ wordN i ++ ⟨#[32, 97, 110, 100, 32]⟩ ++ wordN j)) ∧ Below w.heap.size w w' := by
  have c1 := fun W => l2Word_any i W hi
  have c2 := fun W => l2Word_any j W hj
  have hdc := div_cell w (.cells #[.int .i64 (d : Int), .int .i64 (l : Int), .int .i64 ((i : Int) + 1), .int .i64 ((j : Int) + 1)] 25 (0, 0)) d hd
  have s1 := divN_size hd
  have s2 := wordN_size hi
  have s4 := lineN_size hl
  have cl := fun W => l3LineWord_any l W hl
  have s3 := wordN_size hj
  have e0 : ((d : Int) == 0) = false := by rw [beq_eq_false_iff_ne]; omega
  generalize divN d = tD at *
  generalize lineN l = tL at *
  generalize wordN i = tI at *
  generalize wordN j = tJ at *
  have keep : ∀ (W w1 : World), Below W.heap.size W w1 → W.cell? ⟨w.heap.size, 2, none⟩ = some (.int .i64 ((i : Int) + 1)) ∧ W.cell? ⟨w.heap.size, 3, none⟩ = some (.int .i64 ((j : Int) + 1)) ∧ Below w.heap.size w W → w1.cell? ⟨w.heap.size, 2, none⟩ = some (.int .i64 ((i : Int) + 1)) ∧ w1.cell? ⟨w.heap.size, 3, none⟩ = some (.int .i64 ((j : Int) + 1)) ∧ Below w.heap.size w w1 := fun W w1 hb h =>
    ⟨(hb.cell (p := ⟨w.heap.size, 2, none⟩) (World.block_lt_of_cell? W _ h.1)).trans h.1, (hb.cell (p := ⟨w.heap.size, 3, none⟩) (World.block_lt_of_cell? W _ h.2.1)).trans h.2.1, h.2.2.trans (hb.mono h.2.2.size)⟩
  have C1 := Lib.hid (fun W h => (c1 W).mono (fun e w' (hh : e = Ending.returned (.string tI) ∧ Below W.heap.size W w') => (⟨hh.1, keep W w' hh.2 h⟩ : e = Ending.returned (.string tI) ∧ _)))
  have C2 := Lib.hid (fun W h => (c2 W).mono (fun e w' (hh : e = Ending.returned (.string tJ) ∧ Below W.heap.size W w') => (⟨hh.1, keep W w' hh.2 h⟩ : e = Ending.returned (.string tJ) ∧ _)))
  clear c1 c2 keep
  go_enter Tryd.func29, Tryd.ntmps29
  have n1 : ¬ 9223372036854775807 < tD.size + 1 + tL.size + 1 := by omega
  have n2 : ¬ 9223372036854775807 < tD.size + 1 + tL.size + 1 + tI.size := by omega
  have n3 : ¬ 9223372036854775807 < tD.size + 1 + tL.size + 1 + tI.size + 5 := by omega
  have n4 : ¬ 9223372036854775807 < tD.size + 1 + tL.size + 1 + tI.size + 5 + tJ.size := by omega
  have n5 : ¬ 9223372036854775807 < tD.size + 1 := by omega
  have n6 : ¬ 9223372036854775807 < tD.size + 1 + tL.size := by omega
  have gB := (((Below.refl w.heap.size w).alloc (Nat.le_refl _) (.cells #[.int .i64 (d : Int), .int .i64 (l : Int), .int .i64 ((i : Int) + 1), .int .i64 ((j : Int) + 1)] 25 (0, 0))).alloc (by simp) (.cells #[.string ⟨#[]⟩, .string ⟨#[112, 101, 114, 32, 112, 97, 108, 101]⟩, .string ⟨#[112, 101, 114, 32, 102, 101, 115, 115]⟩, .string ⟨#[112, 101, 114, 32, 98, 101, 110, 100]⟩, .string ⟨#[113, 117, 97, 114, 116, 101, 114, 108, 121]⟩, .string ⟨#[112, 101, 114, 32, 115, 97, 108, 116, 105, 114, 101]⟩, .string ⟨#[112, 97, 108, 121]⟩, .string ⟨#[98, 97, 114, 114, 121]⟩] 9 (0, 0)))
  go_wp2_with fail
  refine (cl _).mono ?_
  rintro e w1 ⟨rfl, hbl⟩
  have g2 : w1.cell? ⟨w.heap.size, 2, none⟩ = some (.int .i64 ((i : Int) + 1)) := (hbl.cell (p := ⟨w.heap.size, 2, none⟩) (by simp; omega)).trans (by simp)
  have g3 : w1.cell? ⟨w.heap.size, 3, none⟩ = some (.int .i64 ((j : Int) + 1)) := (hbl.cell (p := ⟨w.heap.size, 3, none⟩) (by simp; omega)).trans (by simp)
  have gB1 := (gB.trans (hbl.mono (by simp; omega))).drew
  clear hbl gB cl
  go_wp2_with fail
  go_region_held3 (fun w' => w'.cell? ⟨w.heap.size, 2, none⟩ = some (.int .i64 ((i : Int) + 1)) ∧ w'.cell? ⟨w.heap.size, 3, none⟩ = some (.int .i64 ((j : Int) + 1)) ∧ Below w.heap.size w w')
    (first | go_keep | exact ⟨h2, h3, hb⟩ | exact ⟨k2, k3, kb⟩ | exact ⟨h2, h3, hb.drew⟩ | exact ⟨k2, k3, kb.drew⟩ | (refine ⟨?_, ?_, gB1⟩ <;> go_keep))
    (first
      | (go_at_call 46; (with_reducible refine (C1.out _ ?_).mono ?_); (first | assumption | simp [*]); rintro e w1 ⟨rfl, h2, h3, hb⟩)
      | (go_at_call 46; (with_reducible refine (C2.out _ ?_).mono ?_); (first | assumption | simp [*]); rintro e w2 ⟨rfl, k2, k3, kb⟩))
  go_wp2_with fail
  go_ret
  exact ⟨rfl, kb⟩
theorem l3Text_any (d l i j : Nat) (w : World) (hd0 : 1 ≤ d) (hd : d < 8) (hl : l < 5) (hi : i < 9) (hj : j < 9) :
    Calls Tryd.prog 29 #[.agg #[.int .i64 (d : Int), .int .i64 (l : Int), .int .i64 ((i : Int) + 1), .int .i64 ((j : Int) + 1)]] w fun e w' => e = .returned (.string (textN d l i j)) ∧ Below w.heap.size w w' := by
  have hd2 : ¬ d = 0 := by omega
  unfold textN headN
  rw [if_neg hd2]
  by_cases h0 : l = 0
  · subst h0
    rw [if_pos rfl]
    exact l3Text_straight d i j w hd0 hd hi hj
  · rw [if_neg h0]
    exact l3Text_lined d l i j w hd0 hd (by omega) hl hi hj
end Go.Proofs.YtmogabnngphfgaaDoor
