/- Several small texts in one: Words, FText. -/
import Derived.Test.YtgoelkgdjnhklaaDoorRows
import Derived.Test.YtgoelkgdjnhklaaDoorKA
import Derived.LaidMore
import Derived.Stop.LaidErr
import Derived.MakeChecks
import Derived.Lib.LaidTab
import Derived.Below
import Derived.Test.YtgoelkgdjnhklaaDoorKC
import Derived.Deep.RegionWith
import Derived.Deep.RegionHeld3
namespace Go.Proofs.YtgoelkgdjnhklaaDoor
open Go.RowKit

def wordL : List ByteArray := [⟨#[103, 111, 108, 100]⟩, ⟨#[115, 105, 108, 118, 101, 114]⟩, ⟨#[114, 101, 100]⟩, ⟨#[98, 108, 117, 101]⟩, ⟨#[98, 108, 97, 99, 107]⟩, ⟨#[103, 114, 101, 101, 110]⟩, ⟨#[112, 117, 114, 112, 108, 101]⟩, ⟨#[101, 114, 109, 105, 110, 101]⟩, ⟨#[118, 97, 105, 114]⟩]
/-- The word of the tincture i + 1. -/
def wordN (i : Nat) : ByteArray := wordL.getD i ByteArray.empty
theorem wordN_size {i : Nat} (h : i < 9) : (wordN i).size ≤ 6 := by
  rcases (show i = 0 ∨ i = 1 ∨ i = 2 ∨ i = 3 ∨ i = 4 ∨ i = 5 ∨ i = 6 ∨ i = 7 ∨ i = 8 by omega) with rfl | rfl | rfl | rfl | rfl | rfl | rfl | rfl | rfl <;> decide
theorem wordN_ne {i : Nat} (h : i < 9) : (wordN i).size ≠ 0 := by
  rcases (show i = 0 ∨ i = 1 ∨ i = 2 ∨ i = 3 ∨ i = 4 ∨ i = 5 ∨ i = 6 ∨ i = 7 ∨ i = 8 by omega) with rfl | rfl | rfl | rfl | rfl | rfl | rfl | rfl | rfl <;> decide
theorem wordN_inj {i j : Nat} (hi : i < 9) (hj : j < 9) (h : wordN i = wordN j) : i = j := by
  have H : ∀ i, i < 9 → ∀ j, j < 9 → (wordN i).data.toList = (wordN j).data.toList → i = j := by decide
  exact H i hi j hj (by rw [h])

theorem cells_of_words {H : Type} {enc : TypeId × Value → H} {P : Program} {w : World} {base : Nat} {sp : Nat → Bool} {held : Bool} {fuel : Nat} {t e : TypeId} {n : Nat} {cs : List Value} {ss : List ByteArray} {p : List MemPlace}
    (ht : P.underlying t = some (.array n e)) (he : P.underlying e = some .string) (hce : P.cellsOf e = 1) (hct : P.cellsOf t = n)
    (h : DataW.trod enc P w base sp held fuel t cs = some (.agg (ss.map fun s => .lit (.string s.data.toList)), p)) : cs = ss.map Value.string := by
  cases fuel with
  | zero => simp [DataW.trod] at h
  | succ fuel =>
    simp only [DataW.trod, ht, hce, hct, Nat.mul_one] at h
    split at h
    · rename_i hl
      obtain ⟨xs, hm, hx⟩ := Option.map_eq_some_iff.1 h
      have hxs : xs.map (·.1) = ss.map fun s => (DataW.lit (.string s.data.toList) : DataW H) := by
        have := congrArg Prod.fst hx
        simpa using this
      have hxl : xs.length = n := by simpa using Lib.mapM_length hm
      have hzl : ss.length = n := by
        have := congrArg List.length hxs
        simp at this
        omega
      apply List.ext_getElem?
      intro i
      by_cases hi : i < n
      · obtain ⟨b, hb, hf⟩ := Lib.mapM_at hm i i (by simp [hi])
        obtain ⟨z, hc, rfl, _⟩ := DataW.trod_string he hf
        have h1 : cs[i]? = some (.string z) := by
          have := congrArg (·[0]?) hc
          simpa [List.getElem?_take, List.getElem?_drop] using this
        have h2 : (xs.map (·.1))[i]? = some (DataW.lit (.string z.data.toList) : DataW H) := by simp [hb]
        rw [hxs] at h2
        simp only [List.getElem?_map, Option.map_eq_some_iff, DataW.lit.injEq, Lit.string.injEq] at h2
        obtain ⟨z', hz', e2⟩ := h2
        have e3 : z' = z := ByteArray.ext (Array.toList_inj.1 e2)
        subst e3
        simp [h1, hz']
      · rw [List.getElem?_eq_none (by omega), List.getElem?_eq_none (by simp; omega)]
    · cases h

/-- The variable holds the nine words. -/
def WordsLie (w : World) : Prop := ∀ i, i < 9 → w.cell? ⟨2, i, none⟩ = some (.string (wordN i))
theorem WordsLie.below {w w' : World} (h : WordsLie w) (hb : Below w.heap.size w w') : WordsLie w' := fun i hi => (hb.cell (p := ⟨2, i, none⟩) (by
  have h0 := h 0 (by omega)
  show 2 < w.heap.size
  rcases Nat.lt_or_ge 2 w.heap.size with h1 | h1
  · exact h1
  · unfold World.cell? at h0
    rw [Array.getElem?_eq_none h1] at h0
    simp at h0)).trans (h i hi)
theorem words_of {rest : List (String × DataW Unit)} {w : World} (h : laidMet Tryd.prog (("loop.example/g00884/impl.tinctureWords", Rows.laid_loop_example_g00884_impl_tinctureWords) :: rest) w) : WordsLie w := by
  obtain ⟨ps, ⟨g', t', cs, fuel, p, q, hg', ht', hvar, hd, _, _⟩, _⟩ := h
  have hg : Tryd.prog.globalNamed "loop.example/g00884/impl.tinctureWords" = some 2 := by kernel_rfl
  have ht : (Tryd.prog.globals[2]?).map (·.type) = some 102 := by kernel_rfl
  obtain rfl := Option.some.inj (hg.symm.trans hg')
  obtain rfl := Option.some.inj (ht.symm.trans ht')
  have hcs : cs.toList = wordL.map Value.string := cells_of_words (n := 9) (e := 9) (ss := wordL) Tryd.underlying102 Tryd.underlying9 (by kernel_rfl) (by kernel_rfl) hd
  intro i hi
  have h1 := World.var?_cell hg hvar i
  rw [h1, ← Array.getElem?_toList, hcs]
  have hl : i < wordL.length := hi
  simp [wordN, List.getD, hl]

set_option maxHeartbeats 1000000 in
theorem l2Word_any (j : Nat) (w : World) (hj : j < 9) :
    Calls Tryd.prog 85 #[.int .i64 ((j : Int) + 1)] w fun e w' => e = .returned (.string (wordN j)) ∧ Below w.heap.size w w' := by
  obtain ⟨x, hx⟩ : ∃ x : Int, x = (j : Int) + 1 := ⟨_, rfl⟩
  rw [← hx]
  have hw : wordN j = wordN (x - 1).toNat := by rw [show (x - 1).toNat = j by omega]
  rw [hw]
  rcases nine (x := x) (by omega) (by omega) with rfl | rfl | rfl | rfl | rfl | rfl | rfl | rfl | rfl
  all_goals
    clear hx hw
    go_enter Tryd.func85, Tryd.ntmps85
    go_wp2_with fail
    go_ret
    exact ⟨rfl, (Below.refl _ _).alloc (Nat.le_refl _) _⟩
end Go.Proofs.YtgoelkgdjnhklaaDoor
namespace Go.Proofs.YtgoelkgdjnhklaaDoor
open Go.RowKit

def divL : List ByteArray := [⟨#[]⟩, ⟨#[112, 101, 114, 32, 112, 97, 108, 101]⟩, ⟨#[112, 101, 114, 32, 102, 101, 115, 115]⟩, ⟨#[112, 101, 114, 32, 98, 101, 110, 100]⟩, ⟨#[113, 117, 97, 114, 116, 101, 114, 108, 121]⟩, ⟨#[112, 101, 114, 32, 115, 97, 108, 116, 105, 114, 101]⟩, ⟨#[112, 97, 108, 121]⟩, ⟨#[98, 97, 114, 114, 121]⟩]
def divN (i : Nat) : ByteArray := divL.getD i ByteArray.empty
def lineL : List ByteArray := [⟨#[]⟩, ⟨#[101, 110, 103, 114, 97, 105, 108, 101, 100]⟩, ⟨#[119, 97, 118, 121]⟩, ⟨#[101, 109, 98, 97, 116, 116, 108, 101, 100]⟩, ⟨#[105, 110, 100, 101, 110, 116, 101, 100]⟩]
def lineN (i : Nat) : ByteArray := lineL.getD i ByteArray.empty
theorem divN_size {i : Nat} (h : i < 8) : (divN i).size ≤ 11 := by
  rcases (show i = 0 ∨ i = 1 ∨ i = 2 ∨ i = 3 ∨ i = 4 ∨ i = 5 ∨ i = 6 ∨ i = 7 by omega) with rfl | rfl | rfl | rfl | rfl | rfl | rfl | rfl <;> decide
theorem lineN_size {i : Nat} (h : i < 5) : (lineN i).size ≤ 9 := by
  rcases (show i = 0 ∨ i = 1 ∨ i = 2 ∨ i = 3 ∨ i = 4 by omega) with rfl | rfl | rfl | rfl | rfl <;> decide
/-- What stands before the tinctures. -/
def headN (d l : Nat) : ByteArray := if l = 0 then divN d else divN d ++ ⟨#[32]⟩ ++ lineN l
theorem headN_size {d l : Nat} (hd : d < 8) (hl : l < 5) : (headN d l).size ≤ 21 := by
  have h1 := divN_size hd
  have h2 := lineN_size hl
  unfold headN
  split
  · omega
  · simp only [ByteArray.size_append]
    have e : (ByteArray.mk #[32]).size = 1 := rfl
    omega
/-- The text of a field. -/
def textN (d l i j : Nat) : ByteArray := if d = 0 then wordN i else headN d l ++ ⟨#[32]⟩ ++ wordN i ++ ⟨#[32, 97, 110, 100, 32]⟩ ++ wordN j

theorem div_cell (w : World) (o : Obj) (d : Nat) (h : d < 8) : ((w.alloc o).alloc (.cells #[.string ⟨#[]⟩, .string ⟨#[112, 101, 114, 32, 112, 97, 108, 101]⟩, .string ⟨#[112, 101, 114, 32, 102, 101, 115, 115]⟩, .string ⟨#[112, 101, 114, 32, 98, 101, 110, 100]⟩, .string ⟨#[113, 117, 97, 114, 116, 101, 114, 108, 121]⟩, .string ⟨#[112, 101, 114, 32, 115, 97, 108, 116, 105, 114, 101]⟩, .string ⟨#[112, 97, 108, 121]⟩, .string ⟨#[98, 97, 114, 114, 121]⟩] 9 (0, 0))).cell? ⟨w.heap.size + 1, d, none⟩ = some (.string (divN d)) := by
  have e : ((w.alloc o).alloc (.cells #[.string ⟨#[]⟩, .string ⟨#[112, 101, 114, 32, 112, 97, 108, 101]⟩, .string ⟨#[112, 101, 114, 32, 102, 101, 115, 115]⟩, .string ⟨#[112, 101, 114, 32, 98, 101, 110, 100]⟩, .string ⟨#[113, 117, 97, 114, 116, 101, 114, 108, 121]⟩, .string ⟨#[112, 101, 114, 32, 115, 97, 108, 116, 105, 114, 101]⟩, .string ⟨#[112, 97, 108, 121]⟩, .string ⟨#[98, 97, 114, 114, 121]⟩] 9 (0, 0))).heap[w.heap.size + 1]? = some (.cells #[.string ⟨#[]⟩, .string ⟨#[112, 101, 114, 32, 112, 97, 108, 101]⟩, .string ⟨#[112, 101, 114, 32, 102, 101, 115, 115]⟩, .string ⟨#[112, 101, 114, 32, 98, 101, 110, 100]⟩, .string ⟨#[113, 117, 97, 114, 116, 101, 114, 108, 121]⟩, .string ⟨#[112, 101, 114, 32, 115, 97, 108, 116, 105, 114, 101]⟩, .string ⟨#[112, 97, 108, 121]⟩, .string ⟨#[98, 97, 114, 114, 121]⟩] 9 (0, 0)) := by
    have h1 := Array.getElem?_push_size (xs := (w.alloc o).heap) (x := Obj.cells #[.string ⟨#[]⟩, .string ⟨#[112, 101, 114, 32, 112, 97, 108, 101]⟩, .string ⟨#[112, 101, 114, 32, 102, 101, 115, 115]⟩, .string ⟨#[112, 101, 114, 32, 98, 101, 110, 100]⟩, .string ⟨#[113, 117, 97, 114, 116, 101, 114, 108, 121]⟩, .string ⟨#[112, 101, 114, 32, 115, 97, 108, 116, 105, 114, 101]⟩, .string ⟨#[112, 97, 108, 121]⟩, .string ⟨#[98, 97, 114, 114, 121]⟩] 9 (0, 0))
    rw [World.size_alloc] at h1
    exact h1
  simp only [World.cell?, e]
  rcases (show d = 0 ∨ d = 1 ∨ d = 2 ∨ d = 3 ∨ d = 4 ∨ d = 5 ∨ d = 6 ∨ d = 7 by omega) with rfl | rfl | rfl | rfl | rfl | rfl | rfl | rfl <;> rfl

set_option maxHeartbeats 1000000 in
theorem l3LineWord_any (l : Nat) (w : World) (h : l < 5) :
    Calls Tryd.prog 134 #[.int .i64 (l : Int)] w fun e w' => e = .returned (.string (lineN l)) ∧ Below w.heap.size w w' := by
  obtain ⟨x, hx⟩ : ∃ x : Int, x = (l : Int) := ⟨_, rfl⟩
  rw [← hx]
  have hw : lineN l = lineN x.toNat := by rw [show x.toNat = l by omega]
  rw [hw]
  rcases (show x = 0 ∨ x = 1 ∨ x = 2 ∨ x = 3 ∨ x = 4 by omega) with rfl | rfl | rfl | rfl | rfl
  all_goals
    clear hx hw
    go_enter Tryd.func134, Tryd.ntmps134
    go_wp2_with fail
    go_ret
    exact ⟨rfl, (Below.refl _ _).alloc (Nat.le_refl _) _⟩
set_option maxHeartbeats 4000000 in
theorem l3Text_plain (l s : Int) (i : Nat) (w : World) (hi : i < 9) :
    Calls Tryd.prog 126 #[.agg #[.int .i64 0, .int .i64 l, .int .i64 ((i : Int) + 1), .int .i64 s]] w fun e w' => e = .returned (.string (wordN i)) ∧ Below w.heap.size w w' := by
  have c := fun W => l2Word_any i W hi
  obtain ⟨t, ht⟩ : ∃ t, wordN i = t := ⟨_, rfl⟩
  rw [ht] at c ⊢
  clear ht
  go_enter Tryd.func126, Tryd.ntmps126
  go_wp2_with fail
  refine (c _).mono ?_
  rintro e w1 ⟨rfl, hb⟩
  have B := Lib.hid (((Below.refl _ w).alloc (Nat.le_refl _) _).trans (hb.mono (by simp)))
  clear hb
  go_wp2_with fail
  go_ret
  exact ⟨rfl, B.out⟩
set_option maxHeartbeats 4000000 in
theorem l3Text_straight (d i j : Nat) (w : World) (hd0 : 1 ≤ d) (hd : d < 8) (hi : i < 9) (hj : j < 9) :
    Calls Tryd.prog 126 #[.agg #[.int .i64 (d : Int), .int .i64 0, .int .i64 ((i : Int) + 1), .int .i64 ((j : Int) + 1)]] w fun e w' => e = .returned (.string (divN d ++ ⟨#[32]⟩ ++ wordN i ++ ⟨#[32, 97, 110, 100, 32]⟩ ++ wordN j)) ∧ Below w.heap.size w w' := by
  have c1 := fun W => l2Word_any i W hi
  have c2 := fun W => l2Word_any j W hj
  have hdc := div_cell w (.cells #[.int .i64 (d : Int), .int .i64 0, .int .i64 ((i : Int) + 1), .int .i64 ((j : Int) + 1)] 33 (0, 0)) d hd
  have s1 := divN_size hd
  have s2 := wordN_size hi
  have s3 := wordN_size hj
  have e0 : ((d : Int) == 0) = false := by rw [beq_eq_false_iff_ne]; omega
  generalize divN d = tD at *
  generalize wordN i = tI at *
  generalize wordN j = tJ at *
  have keep : ∀ (W w1 : World), Below W.heap.size W w1 → W.cell? ⟨w.heap.size, 2, none⟩ = some (.int .i64 ((i : Int) + 1)) ∧ W.cell? ⟨w.heap.size, 3, none⟩ = some (.int .i64 ((j : Int) + 1)) ∧ Below w.heap.size w W → w1.cell? ⟨w.heap.size, 2, none⟩ = some (.int .i64 ((i : Int) + 1)) ∧ w1.cell? ⟨w.heap.size, 3, none⟩ = some (.int .i64 ((j : Int) + 1)) ∧ Below w.heap.size w w1 := fun W w1 hb h =>
    ⟨(hb.cell (p := ⟨w.heap.size, 2, none⟩) (World.block_lt_of_cell? W _ h.1)).trans h.1, (hb.cell (p := ⟨w.heap.size, 3, none⟩) (World.block_lt_of_cell? W _ h.2.1)).trans h.2.1, h.2.2.trans (hb.mono h.2.2.size)⟩
  have C1 := Lib.hid (fun W h => (c1 W).mono (fun e w' (hh : e = Ending.returned (.string tI) ∧ Below W.heap.size W w') => (⟨hh.1, keep W w' hh.2 h⟩ : e = Ending.returned (.string tI) ∧ _)))
  have C2 := Lib.hid (fun W h => (c2 W).mono (fun e w' (hh : e = Ending.returned (.string tJ) ∧ Below W.heap.size W w') => (⟨hh.1, keep W w' hh.2 h⟩ : e = Ending.returned (.string tJ) ∧ _)))
  clear c1 c2 keep
  go_enter Tryd.func126, Tryd.ntmps126
  have n1 : ¬ 9223372036854775807 < tD.size + 1 := by omega
  have n2 : ¬ 9223372036854775807 < tD.size + 1 + tI.size := by omega
  have n3 : ¬ 9223372036854775807 < tD.size + 1 + tI.size + 5 := by omega
  have n4 : ¬ 9223372036854775807 < tD.size + 1 + tI.size + 5 + tJ.size := by omega
  have gB := (((Below.refl w.heap.size w).alloc (Nat.le_refl _) (.cells #[.int .i64 (d : Int), .int .i64 0, .int .i64 ((i : Int) + 1), .int .i64 ((j : Int) + 1)] 33 (0, 0))).alloc (by simp) (.cells #[.string ⟨#[]⟩, .string ⟨#[112, 101, 114, 32, 112, 97, 108, 101]⟩, .string ⟨#[112, 101, 114, 32, 102, 101, 115, 115]⟩, .string ⟨#[112, 101, 114, 32, 98, 101, 110, 100]⟩, .string ⟨#[113, 117, 97, 114, 116, 101, 114, 108, 121]⟩, .string ⟨#[112, 101, 114, 32, 115, 97, 108, 116, 105, 114, 101]⟩, .string ⟨#[112, 97, 108, 121]⟩, .string ⟨#[98, 97, 114, 114, 121]⟩] 9 (0, 0))).drew
  go_wp2_with fail
  go_region_held3 (fun w' => w'.cell? ⟨w.heap.size, 2, none⟩ = some (.int .i64 ((i : Int) + 1)) ∧ w'.cell? ⟨w.heap.size, 3, none⟩ = some (.int .i64 ((j : Int) + 1)) ∧ Below w.heap.size w w')
    (first | go_keep | exact ⟨h2, h3, hb⟩ | exact ⟨k2, k3, kb⟩ | exact ⟨h2, h3, hb.drew⟩ | exact ⟨k2, k3, kb.drew⟩ | (refine ⟨?_, ?_, gB⟩ <;> go_keep))
    (first
      | (go_at_call 85; (with_reducible refine (C1.out _ ?_).mono ?_); (first | assumption | simp [*]); rintro e w1 ⟨rfl, h2, h3, hb⟩)
      | (go_at_call 85; (with_reducible refine (C2.out _ ?_).mono ?_); (first | assumption | simp [*]); rintro e w2 ⟨rfl, k2, k3, kb⟩))
  go_wp2_with fail
  go_ret
  exact ⟨rfl, kb⟩
set_option maxHeartbeats 4000000 in
theorem l3Text_lined (d l i j : Nat) (w : World) (hd0 : 1 ≤ d) (hd : d < 8) (hl0 : 1 ≤ l) (hl : l < 5) (hi : i < 9) (hj : j < 9) :
    Calls Tryd.prog 126 #[.agg #[.int .i64 (d : Int), .int .i64 (l : Int), .int .i64 ((i : Int) + 1), .int .i64 ((j : Int) + 1)]] w fun e w' => e = .returned (.string (divN d ++ ⟨#[32]⟩ ++ lineN l ++ ⟨#[32]⟩ ++ wordN i ++ ⟨#[32, 97, 110, 100, 32]⟩ ++ wordN j)) ∧ Below w.heap.size w w' := by
  have c1 := fun W => l2Word_any i W hi
  have c2 := fun W => l2Word_any j W hj
  have hdc := div_cell w (.cells #[.int .i64 (d : Int), .int .i64 (l : Int), .int .i64 ((i : Int) + 1), .int .i64 ((j : Int) + 1)] 33 (0, 0)) d hd
  have s1 := divN_size hd
  have s2 := wordN_size hi
  have s4 := lineN_size hl
  have cl := fun W => l3LineWord_any l W hl
  have s3 := wordN_size hj
  have e0 : ((d : Int) == 0) = false := by rw [beq_eq_false_iff_ne]; omega
  generalize divN d = tD at *
  generalize lineN l = tL at *
  generalize wordN i = tI at *
  generalize wordN j = tJ at *
  have keep : ∀ (W w1 : World), Below W.heap.size W w1 → W.cell? ⟨w.heap.size, 2, none⟩ = some (.int .i64 ((i : Int) + 1)) ∧ W.cell? ⟨w.heap.size, 3, none⟩ = some (.int .i64 ((j : Int) + 1)) ∧ Below w.heap.size w W → w1.cell? ⟨w.heap.size, 2, none⟩ = some (.int .i64 ((i : Int) + 1)) ∧ w1.cell? ⟨w.heap.size, 3, none⟩ = some (.int .i64 ((j : Int) + 1)) ∧ Below w.heap.size w w1 := fun W w1 hb h =>
    ⟨(hb.cell (p := ⟨w.heap.size, 2, none⟩) (World.block_lt_of_cell? W _ h.1)).trans h.1, (hb.cell (p := ⟨w.heap.size, 3, none⟩) (World.block_lt_of_cell? W _ h.2.1)).trans h.2.1, h.2.2.trans (hb.mono h.2.2.size)⟩
  have C1 := Lib.hid (fun W h => (c1 W).mono (fun e w' (hh : e = Ending.returned (.string tI) ∧ Below W.heap.size W w') => (⟨hh.1, keep W w' hh.2 h⟩ : e = Ending.returned (.string tI) ∧ _)))
  have C2 := Lib.hid (fun W h => (c2 W).mono (fun e w' (hh : e = Ending.returned (.string tJ) ∧ Below W.heap.size W w') => (⟨hh.1, keep W w' hh.2 h⟩ : e = Ending.returned (.string tJ) ∧ _)))
  clear c1 c2 keep
  go_enter Tryd.func126, Tryd.ntmps126
  have n1 : ¬ 9223372036854775807 < tD.size + 1 + tL.size + 1 := by omega
  have n2 : ¬ 9223372036854775807 < tD.size + 1 + tL.size + 1 + tI.size := by omega
  have n3 : ¬ 9223372036854775807 < tD.size + 1 + tL.size + 1 + tI.size + 5 := by omega
  have n4 : ¬ 9223372036854775807 < tD.size + 1 + tL.size + 1 + tI.size + 5 + tJ.size := by omega
  have n5 : ¬ 9223372036854775807 < tD.size + 1 := by omega
  have n6 : ¬ 9223372036854775807 < tD.size + 1 + tL.size := by omega
  have gB := (((Below.refl w.heap.size w).alloc (Nat.le_refl _) (.cells #[.int .i64 (d : Int), .int .i64 (l : Int), .int .i64 ((i : Int) + 1), .int .i64 ((j : Int) + 1)] 33 (0, 0))).alloc (by simp) (.cells #[.string ⟨#[]⟩, .string ⟨#[112, 101, 114, 32, 112, 97, 108, 101]⟩, .string ⟨#[112, 101, 114, 32, 102, 101, 115, 115]⟩, .string ⟨#[112, 101, 114, 32, 98, 101, 110, 100]⟩, .string ⟨#[113, 117, 97, 114, 116, 101, 114, 108, 121]⟩, .string ⟨#[112, 101, 114, 32, 115, 97, 108, 116, 105, 114, 101]⟩, .string ⟨#[112, 97, 108, 121]⟩, .string ⟨#[98, 97, 114, 114, 121]⟩] 9 (0, 0)))
  go_wp2_with fail
  refine (cl _).mono ?_
  rintro e w1 ⟨rfl, hbl⟩
  have g2 : w1.cell? ⟨w.heap.size, 2, none⟩ = some (.int .i64 ((i : Int) + 1)) := (hbl.cell (p := ⟨w.heap.size, 2, none⟩) (by simp; omega)).trans (by simp)
  have g3 : w1.cell? ⟨w.heap.size, 3, none⟩ = some (.int .i64 ((j : Int) + 1)) := (hbl.cell (p := ⟨w.heap.size, 3, none⟩) (by simp; omega)).trans (by simp)
  have gB1 := (gB.trans (hbl.mono (by simp; omega))).drew
  clear hbl gB cl
  go_wp2_with fail
  go_region_held3 (fun w' => w'.cell? ⟨w.heap.size, 2, none⟩ = some (.int .i64 ((i : Int) + 1)) ∧ w'.cell? ⟨w.heap.size, 3, none⟩ = some (.int .i64 ((j : Int) + 1)) ∧ Below w.heap.size w w')
    (first | go_keep | exact ⟨h2, h3, hb⟩ | exact ⟨k2, k3, kb⟩ | exact ⟨h2, h3, hb.drew⟩ | exact ⟨k2, k3, kb.drew⟩ | (refine ⟨?_, ?_, gB1⟩ <;> go_keep))
    (first
      | (go_at_call 85; (with_reducible refine (C1.out _ ?_).mono ?_); (first | assumption | simp [*]); rintro e w1 ⟨rfl, h2, h3, hb⟩)
      | (go_at_call 85; (with_reducible refine (C2.out _ ?_).mono ?_); (first | assumption | simp [*]); rintro e w2 ⟨rfl, k2, k3, kb⟩))
  go_wp2_with fail
  go_ret
  exact ⟨rfl, kb⟩
theorem l3Text_any (d l i j : Nat) (w : World) (hd0 : 1 ≤ d) (hd : d < 8) (hl : l < 5) (hi : i < 9) (hj : j < 9) :
    Calls Tryd.prog 126 #[.agg #[.int .i64 (d : Int), .int .i64 (l : Int), .int .i64 ((i : Int) + 1), .int .i64 ((j : Int) + 1)]] w fun e w' => e = .returned (.string (textN d l i j)) ∧ Below w.heap.size w w' := by
  have hd2 : ¬ d = 0 := by omega
  unfold textN headN
  rw [if_neg hd2]
  by_cases h0 : l = 0
  · subst h0
    rw [if_pos rfl]
    exact l3Text_straight d i j w hd0 hd hi hj
  · rw [if_neg h0]
    exact l3Text_lined d l i j w hd0 hd (by omega) hl hi hj
end Go.Proofs.YtgoelkgdjnhklaaDoor
