/- Contracts: the program's table of the words before a finding; the sentences of findings, of the program and of the model. -/
import Derived.Test.YtgoelkgdjnhklaaDoorKD
import Derived.Test.YtgoelkgdjnhklaaDoorKW
import Derived.Test.YtgoelkgdjnhklaaDoorKC
import Derived.Test.YtgoelkgdjnhklaaDoorE8Rules
import Derived.Test.YtgoelkgdjnhklaaDoorE8Allow
import Derived.Deep.RegionHeld3
import Derived.Deep.DeepCutAuto
import Derived.Deep.QuietTactic
namespace Go.Proofs.YtgoelkgdjnhklaaDoor
open Go.RowKit

def startL : List ByteArray := [⟨#[84, 104, 101, 32, 111, 114, 100, 105, 110, 97, 114, 121, 32, 105, 115]⟩, ⟨#[84, 104, 101, 32, 99, 104, 97, 114, 103, 101, 115, 32, 111, 110, 32, 116, 104, 101, 32, 111, 114, 100, 105, 110, 97, 114, 121, 32, 97, 114, 101]⟩, ⟨#[84, 104, 101, 32, 99, 104, 97, 114, 103, 101, 115, 32, 97, 114, 111, 117, 110, 100, 32, 105, 116, 32, 97, 114, 101]⟩]
def startN (p : Nat) : ByteArray := startL.getD p ByteArray.empty
def mstartL : List ByteArray := [⟨#[]⟩, ⟨#[84, 104, 101, 32, 111, 114, 100, 105, 110, 97, 114, 121, 32, 105, 115, 32]⟩, ⟨#[84, 104, 101, 32, 99, 104, 97, 114, 103, 101, 115, 32, 111, 110, 32, 116, 104, 101, 32, 111, 114, 100, 105, 110, 97, 114, 121, 32, 97, 114, 101, 32]⟩, ⟨#[84, 104, 101, 32, 99, 104, 97, 114, 103, 101, 115, 32, 97, 114, 111, 117, 110, 100, 32, 105, 116, 32, 97, 114, 101, 32]⟩]
def mstartN (p : Nat) : ByteArray := mstartL.getD p ByteArray.empty
theorem startN_size {p : Nat} (h : p < 3) : (startN p).size ≤ 31 := by
  rcases (show p = 0 ∨ p = 1 ∨ p = 2 by omega) with rfl | rfl | rfl <;> decide
theorem mstartN_size {p : Nat} (h : p < 4) : (mstartN p).size ≤ 32 := by
  rcases (show p = 0 ∨ p = 1 ∨ p = 2 ∨ p = 3 by omega) with rfl | rfl | rfl | rfl <;> decide
theorem start_space {p : Nat} (h : p < 3) : startN p ++ ⟨#[32]⟩ = mstartN (p + 1) := by
  rcases (show p = 0 ∨ p = 1 ∨ p = 2 by omega) with rfl | rfl | rfl <;> rfl
/-- The sentence of a finding. -/
def fText (p i j : Nat) : ByteArray := mstartN (p + 1) ++ wordN i ++ ⟨#[32, 111, 110, 32]⟩ ++ wordN j ++ ⟨#[46]⟩
/-- A finding is valid. -/
def fOkB (p u l : Int) : Bool := decide (1 ≤ p ∧ p ≤ 3) && clA u l
def StartsLie (w : World) : Prop := ∀ i, i < 3 → w.cell? ⟨3, i, none⟩ = some (.string (startN i))
theorem StartsLie.below {w w' : World} (h : StartsLie w) (hb : Below w.heap.size w w') : StartsLie w' := fun i hi => (hb.cell (p := ⟨3, i, none⟩) (World.block_lt_of_cell? w _ (h i hi))).trans (h i hi)
theorem starts_of {rest : List (String × DataW Unit)} {w : World} (h : laidMet Tryd.prog (("loop.example/g00884/impl.findingStarts", Rows.laid_loop_example_g00884_impl_findingStarts) :: rest) w) : StartsLie w := by
  obtain ⟨ps, ⟨g', t', cs, fuel, p, q, hg', ht', hvar, hd, _, _⟩, _⟩ := h
  have hg : Tryd.prog.globalNamed "loop.example/g00884/impl.findingStarts" = some 3 := by kernel_rfl
  have ht : (Tryd.prog.globals[3]?).map (·.type) = some 120 := by kernel_rfl
  obtain rfl := Option.some.inj (hg.symm.trans hg')
  obtain rfl := Option.some.inj (ht.symm.trans ht')
  have hcs : cs.toList = startL.map Value.string := cells_of_words (n := 3) (e := 9) (ss := startL) Tryd.underlying120 Tryd.underlying9 (by kernel_rfl) (by kernel_rfl) hd
  intro i hi
  rw [World.var?_cell hg hvar i, ← Array.getElem?_toList, hcs]
  rcases (show i = 0 ∨ i = 1 ∨ i = 2 by omega) with rfl | rfl | rfl <;> rfl
theorem findTabsH {w : World} (h : laidMetH Tryd.prog [("loop.example/g00884/impl.tinctureWords", Rows.laid_loop_example_g00884_impl_tinctureWords), ("loop.example/g00884/impl.findingStarts", Rows.laid_loop_example_g00884_impl_findingStarts)] w) : WordsLie w ∧ StartsLie w := by
  rw [MakeChecks.laidMetH_plain _ _ _ (by kernel_rfl)] at h
  exact ⟨words_of h, starts_of h.tail⟩
set_option linter.unusedSimpArgs false in
set_option maxRecDepth 100000 in
set_option maxHeartbeats 8000000 in
theorem validFinding_any (p u l : Int) (w : World) (r : Bool) (hr : fOkB p u l = r) :
    Calls Tryd.prog 91 #[.agg #[.int .i64 p, .int .i64 u, .int .i64 l]] w fun e w' => e = .returned (.bool r) ∧ Below w.heap.size w w' := by
  obtain ⟨q, hq⟩ : ∃ q, (clashA u l).2 = q := ⟨_, rfl⟩
  obtain ⟨z, hz⟩ : ∃ z, clA u l = z := ⟨_, rfl⟩
  obtain ⟨y, hy⟩ : ∃ y, decide (1 ≤ p ∧ p ≤ 3) = y := ⟨_, rfl⟩
  have CC := Lib.hid (show ∀ W, Calls Tryd.prog 111 #[.int .i64 u, .int .i64 l] W fun e w' => e = .returned (.tuple #[.bool z, .bool q]) ∧ W = w' from by
    intro W
    rw [← hz, ← hq]
    exact clash_impl u l W)
  have CP := Lib.hid (fun W => isPlace_any p W y hy)
  have HR := Lib.hid (show (y && z) = r by rw [← hr, ← hy, ← hz]; rfl)
  clear hr hq hz hy
  cases y
  all_goals
    go_enter Tryd.func91, Tryd.ntmps91
    go_wp2_with fail
    refine (CC.out _).mono ?_
    rintro e w1 ⟨rfl, rfl⟩
    go_wp2_with fail
    refine (CP.out _).mono ?_
    rintro e w2 ⟨rfl, rfl⟩
    go_wp2_with fail
    go_ret
    exact ⟨by rw [← HR.out] <;> rfl, (Below.refl _ w).alloc (Nat.le_refl _) _⟩
set_option linter.unusedSimpArgs false in
set_option maxRecDepth 100000 in
set_option maxHeartbeats 8000000 in
theorem findText_no (p u l : Int) (w : World) (h : fOkB p u l = false) :
    Calls Tryd.prog 30 #[.agg #[.int .i64 p, .int .i64 u, .int .i64 l]] w fun e w' => e = .returned (.tuple #[.string ⟨#[]⟩, .bool false]) ∧ Below w.heap.size w w' := by
  have CV := Lib.hid (fun W => validFinding_any p u l W false h)
  clear h
  go_enter Tryd.func30, Tryd.ntmps30
  go_wp2_with fail
  refine (CV.out _).mono ?_
  rintro e w1 ⟨rfl, h1⟩
  have B1 := Lib.hid (((Below.refl _ w).alloc (Nat.le_refl _) _).trans (h1.mono (by simp)))
  clear h1
  go_wp2_with fail
  go_ret2
  exact ⟨rfl, B1.out⟩
set_option linter.unusedSimpArgs false in
set_option maxRecDepth 100000 in
set_option maxHeartbeats 8000000 in
theorem findText_yes (p i j : Nat) (w : World) (hp : p < 3) (hi : i < 9) (hj : j < 9) (h : fOkB ((p : Int) + 1) ((i : Int) + 1) ((j : Int) + 1) = true) (hW : WordsLie w) (hS : StartsLie w) :
    Calls Tryd.prog 30 #[.agg #[.int .i64 ((p : Int) + 1), .int .i64 ((i : Int) + 1), .int .i64 ((j : Int) + 1)]] w fun e w' => e = .returned (.tuple #[.string (fText p i j), .bool true]) ∧ Below w.heap.size w w' := by
  have CV := Lib.hid (fun W => validFinding_any ((p : Int) + 1) ((i : Int) + 1) ((j : Int) + 1) W true h)
  have HT : Hid (fText p i j = startN p ++ ⟨#[32]⟩ ++ wordN i ++ ⟨#[32, 111, 110, 32]⟩ ++ wordN j ++ ⟨#[46]⟩) := Lib.hid (by unfold fText; rw [start_space hp])
  have c1 := hW i hi
  have c2 := hW j hj
  have c3 := hS p hp
  have s1 := wordN_size hi
  have s2 := wordN_size hj
  have s3 := startN_size hp
  have X0 := Lib.hid (Box.new w [.int .i64 ((p : Int) + 1), .int .i64 ((i : Int) + 1), .int .i64 ((j : Int) + 1)] 52)
  generalize fText p i j = T0 at *
  generalize wordN i = T1 at *
  generalize wordN j = T2 at *
  generalize startN p = T3 at *
  have n1 : ¬ 9223372036854775807 < T3.size + 1 := by omega
  have n2 : ¬ 9223372036854775807 < T3.size + 1 + T1.size := by omega
  have n3 : ¬ 9223372036854775807 < T3.size + 1 + T1.size + 4 := by omega
  have n4 : ¬ 9223372036854775807 < T3.size + 1 + T1.size + 4 + T2.size := by omega
  have n5 : ¬ 9223372036854775807 < T3.size + 1 + T1.size + 4 + T2.size + 1 := by omega
  clear h hW hS
  go_enter Tryd.func30, Tryd.ntmps30
  go_wp2_with fail
  refine (CV.out _).mono ?_
  rintro e w1 ⟨rfl, h1⟩
  have B1 := Lib.hid (((Below.refl _ w).alloc (Nat.le_refl _) _).trans (h1.mono (by simp)))
  have X1 := X0.out.below h1
  have x0 := X1.2 0 _ rfl
  have x1 := X1.2 1 _ rfl
  have x2 := X1.2 2 _ rfl
  have c1 := (B1.out.cell (p := ⟨2, i, none⟩) (World.block_lt_of_cell? w _ c1)).trans c1
  have c2 := (B1.out.cell (p := ⟨2, j, none⟩) (World.block_lt_of_cell? w _ c2)).trans c2
  have c3 := (B1.out.cell (p := ⟨3, p, none⟩) (World.block_lt_of_cell? w _ c3)).trans c3
  clear h1 X0 X1
  go_wp2_with fail
  go_quiet (fail)
  go_wp2_with fail
  go_ret2
  exact ⟨by rw [HT.out]; rfl, below_drewN' B1.out _⟩
set_option linter.unusedSimpArgs false in
set_option maxRecDepth 100000 in
set_option maxHeartbeats 8000000 in
theorem l8Good_any (p u l : Int) (w : World) (r : Bool) (hr : fOkB p u l = r) :
    Calls Tryd.prog 115 #[.agg #[.int .i64 p, .int .i64 u, .int .i64 l]] w fun e w' => e = .returned (.bool r) ∧ Below w.heap.size w w' := by
  obtain ⟨r1, e1⟩ : ∃ q, decide (1 ≤ p ∧ p ≤ 3) = q := ⟨_, rfl⟩
  obtain ⟨r2, e2⟩ : ∃ q, decide (1 ≤ u ∧ u ≤ 9) = q := ⟨_, rfl⟩
  obtain ⟨r3, e3⟩ : ∃ q, decide (1 ≤ l ∧ l ≤ 9) = q := ⟨_, rfl⟩
  obtain ⟨r4, e4⟩ : ∃ q, clashB u l = q := ⟨_, rfl⟩
  have C1 := Lib.hid (fun W => l1In_any p 1 3 W r1 e1)
  have C2 := Lib.hid (fun W => l2Good_any u W r2 e2)
  have C3 := Lib.hid (fun W => l2Good_any l W r3 e3)
  have C4 := Lib.hid (show ∀ W, Calls Tryd.prog 107 #[.int .i64 u, .int .i64 l] W fun e w' => e = .returned (.bool r4) ∧ W = w' from fun W => by rw [← e4]; exact l2Clash_any u l W)
  have HR := Lib.hid (show (r1 && (r2 && (r3 && r4))) = r by
    rw [← hr]
    unfold fOkB clA clashA
    rw [e1, ← e2, ← e3, ← e4]
    by_cases h2 : 1 ≤ u ∧ u ≤ 9 <;> by_cases h3 : 1 ≤ l ∧ l ≤ 9
    · rw [if_pos ⟨h2.1, h2.2, h3.1, h3.2⟩]; simp [h2, h3]
    · rw [if_neg (fun h => h3 h.2.2)]; simp [h3]
    · rw [if_neg (fun h => h2 ⟨h.1, h.2.1⟩)]; simp [h2]
    · rw [if_neg (fun h => h2 ⟨h.1, h.2.1⟩)]; simp [h2])
  clear hr e1 e2 e3 e4
  cases r1
  · go_enter Tryd.func115, Tryd.ntmps115
    go_wp2_with fail
    refine (C1.out _).mono ?_
    rintro e w1 ⟨rfl, rfl⟩
    go_wp2_with fail
    go_ret
    exact ⟨by rw [← HR.out] <;> rfl, (Below.refl _ w).alloc (Nat.le_refl _) _⟩
  · cases r2
    · go_enter Tryd.func115, Tryd.ntmps115
      go_wp2_with fail
      refine (C1.out _).mono ?_
      rintro e w1 ⟨rfl, rfl⟩
      go_wp2_with fail
      refine (C2.out _).mono ?_
      rintro e w1 ⟨rfl, rfl⟩
      go_wp2_with fail
      go_ret
      exact ⟨by rw [← HR.out] <;> rfl, (Below.refl _ w).alloc (Nat.le_refl _) _⟩
    · cases r3
      · go_enter Tryd.func115, Tryd.ntmps115
        go_wp2_with fail
        refine (C1.out _).mono ?_
        rintro e w1 ⟨rfl, rfl⟩
        go_wp2_with fail
        refine (C2.out _).mono ?_
        rintro e w1 ⟨rfl, rfl⟩
        go_wp2_with fail
        refine (C3.out _).mono ?_
        rintro e w1 ⟨rfl, rfl⟩
        go_wp2_with fail
        go_ret
        exact ⟨by rw [← HR.out] <;> rfl, (Below.refl _ w).alloc (Nat.le_refl _) _⟩
      · go_enter Tryd.func115, Tryd.ntmps115
        go_wp2_with fail
        refine (C1.out _).mono ?_
        rintro e w1 ⟨rfl, rfl⟩
        go_wp2_with fail
        refine (C2.out _).mono ?_
        rintro e w1 ⟨rfl, rfl⟩
        go_wp2_with fail
        refine (C3.out _).mono ?_
        rintro e w1 ⟨rfl, rfl⟩
        go_wp2_with fail
        refine (C4.out _).mono ?_
        rintro e w1 ⟨rfl, rfl⟩
        go_wp2_with fail
        go_ret
        exact ⟨by rw [← HR.out] <;> rfl, (Below.refl _ w).alloc (Nat.le_refl _) _⟩
theorem wpAnyH_imp {P : Program} {md : Region.Mode} {ops : Array Oper} {Q : Exit → Act → World → Prop} {S S' : World → Prop} (hi : ∀ w, S' w → S w) : ∀ (fuel : Nat) (listed : Array Bool) (a : Act) (w : World), wpAnyH P md ops Q S' fuel listed a w → wpAnyH P md ops Q S fuel listed a w
  | 0, _, _, _, h => h
  | fuel + 1, _, _, _, h => ⟨h.1, fun i hi' => wpOp_mono (fun a' w' h' => ⟨hi _ h'.1, wpAnyH_imp hi fuel _ a' w' h'.2⟩) (h.2 i hi')⟩
theorem starts_cell (w : World) (p : Nat) (h : p < 4) : (w.alloc (.cells #[.string ⟨#[]⟩, .string ⟨#[84, 104, 101, 32, 111, 114, 100, 105, 110, 97, 114, 121, 32, 105, 115, 32]⟩, .string ⟨#[84, 104, 101, 32, 99, 104, 97, 114, 103, 101, 115, 32, 111, 110, 32, 116, 104, 101, 32, 111, 114, 100, 105, 110, 97, 114, 121, 32, 97, 114, 101, 32]⟩, .string ⟨#[84, 104, 101, 32, 99, 104, 97, 114, 103, 101, 115, 32, 97, 114, 111, 117, 110, 100, 32, 105, 116, 32, 97, 114, 101, 32]⟩] 9 (0, 0))).cell? ⟨w.heap.size, p, none⟩ = some (.string (mstartN p)) := by
  have e : (w.alloc (.cells #[.string ⟨#[]⟩, .string ⟨#[84, 104, 101, 32, 111, 114, 100, 105, 110, 97, 114, 121, 32, 105, 115, 32]⟩, .string ⟨#[84, 104, 101, 32, 99, 104, 97, 114, 103, 101, 115, 32, 111, 110, 32, 116, 104, 101, 32, 111, 114, 100, 105, 110, 97, 114, 121, 32, 97, 114, 101, 32]⟩, .string ⟨#[84, 104, 101, 32, 99, 104, 97, 114, 103, 101, 115, 32, 97, 114, 111, 117, 110, 100, 32, 105, 116, 32, 97, 114, 101, 32]⟩] 9 (0, 0))).heap[w.heap.size]? = some (.cells #[.string ⟨#[]⟩, .string ⟨#[84, 104, 101, 32, 111, 114, 100, 105, 110, 97, 114, 121, 32, 105, 115, 32]⟩, .string ⟨#[84, 104, 101, 32, 99, 104, 97, 114, 103, 101, 115, 32, 111, 110, 32, 116, 104, 101, 32, 111, 114, 100, 105, 110, 97, 114, 121, 32, 97, 114, 101, 32]⟩, .string ⟨#[84, 104, 101, 32, 99, 104, 97, 114, 103, 101, 115, 32, 97, 114, 111, 117, 110, 100, 32, 105, 116, 32, 97, 114, 101, 32]⟩] 9 (0, 0)) := by
    show (w.heap.push _)[w.heap.size]? = _
    exact Array.getElem?_push_size
  simp only [World.cell?, e]
  rcases (show p = 0 ∨ p = 1 ∨ p = 2 ∨ p = 3 by omega) with rfl | rfl | rfl | rfl <;> rfl
theorem l8Starts_any (p : Nat) (hp : p < 4) (w : World) :
    Calls Tryd.prog 116 #[] w fun e w' => e = .returned (.slice (some ⟨w.heap.size, 0, none⟩) 4 4) ∧ w'.cell? ⟨w.heap.size, p, none⟩ = some (.string (mstartN p)) ∧ Below w.heap.size w w' := by
  have hc := starts_cell w p hp
  go_enter Tryd.func116, Tryd.ntmps116
  go_wp2_with fail
  go_ret
  exact ⟨rfl, hc, (Below.refl _ _).alloc (Nat.le_refl _) _⟩
set_option linter.unusedSimpArgs false in
set_option maxRecDepth 100000 in
set_option maxHeartbeats 8000000 in
theorem findTextS_no (p u l : Int) (w : World) (h : fOkB p u l = false) :
    Calls Tryd.prog 61 #[.agg #[.int .i64 p, .int .i64 u, .int .i64 l]] w fun e w' => e = .returned (.tuple #[.string ⟨#[]⟩, .bool false]) ∧ Below w.heap.size w w' := by
  have CV := Lib.hid (fun W => l8Good_any p u l W false h)
  clear h
  go_enter Tryd.func61, Tryd.ntmps61
  go_wp2_with fail
  refine (CV.out _).mono ?_
  rintro e w1 ⟨rfl, h1⟩
  have B1 := Lib.hid (((Below.refl _ w).alloc (Nat.le_refl _) _).trans (h1.mono (by simp)))
  clear h1
  go_wp2_with fail
  go_ret2
  exact ⟨rfl, B1.out⟩
/-- What is kept in the statement that puts a sentence together: the box of the finding, and all that was there. -/
def FB (w W : World) (p i j : Nat) : Prop := W.cell? ⟨w.heap.size, 0, none⟩ = some (.int .i64 ((p : Int) + 1)) ∧ W.cell? ⟨w.heap.size, 1, none⟩ = some (.int .i64 ((i : Int) + 1)) ∧ W.cell? ⟨w.heap.size, 2, none⟩ = some (.int .i64 ((j : Int) + 1)) ∧ Below w.heap.size w W
theorem FB.below {w W W' : World} {p i j : Nat} (h : FB w W p i j) (hb : Below W.heap.size W W') : FB w W' p i j :=
  ⟨(hb.cell (p := ⟨w.heap.size, 0, none⟩) (World.block_lt_of_cell? W _ h.1)).trans h.1, (hb.cell (p := ⟨w.heap.size, 1, none⟩) (World.block_lt_of_cell? W _ h.2.1)).trans h.2.1, (hb.cell (p := ⟨w.heap.size, 2, none⟩) (World.block_lt_of_cell? W _ h.2.2.1)).trans h.2.2.1, h.2.2.2.trans (hb.mono h.2.2.2.size)⟩
set_option linter.unusedSimpArgs false in
set_option maxRecDepth 100000 in
set_option maxHeartbeats 8000000 in
theorem findTextS_yes (p i j : Nat) (w : World) (hp : p < 3) (hi : i < 9) (hj : j < 9) (h : fOkB ((p : Int) + 1) ((i : Int) + 1) ((j : Int) + 1) = true) :
    Calls Tryd.prog 61 #[.agg #[.int .i64 ((p : Int) + 1), .int .i64 ((i : Int) + 1), .int .i64 ((j : Int) + 1)]] w fun e w' => e = .returned (.tuple #[.string (fText p i j), .bool true]) ∧ Below w.heap.size w w' := by
  have CV := Lib.hid (fun W => l8Good_any ((p : Int) + 1) ((i : Int) + 1) ((j : Int) + 1) W true h)
  have s1 := wordN_size hi
  have s2 := wordN_size hj
  have s3 := mstartN_size (p := p + 1) (by omega)
  have c0 := fun W => l8Starts_any (p + 1) (by omega) W
  have c1 := fun W => l2Word_any i W hi
  have c2 := fun W => l2Word_any j W hj
  have X0 := Lib.hid (Box.new w [.int .i64 ((p : Int) + 1), .int .i64 ((i : Int) + 1), .int .i64 ((j : Int) + 1)] 52)
  unfold fText
  generalize wordN i = T1 at *
  generalize wordN j = T2 at *
  generalize mstartN (p + 1) = T3 at *
  have n1 : ¬ 9223372036854775807 < T3.size + T1.size := by omega
  have n2 : ¬ 9223372036854775807 < T3.size + T1.size + 4 := by omega
  have n3 : ¬ 9223372036854775807 < T3.size + T1.size + 4 + T2.size := by omega
  have n4 : ¬ 9223372036854775807 < T3.size + T1.size + 4 + T2.size + 1 := by omega
  have p0 : (0 : Int) ≤ (p : Int) + 1 := by omega
  have p1 : (p : Int) + 1 < 4 := by omega
  have p2 : ((p : Int) + 1).toNat = p + 1 := by omega
  clear h
  go_enter Tryd.func61, Tryd.ntmps61
  go_wp2_with fail
  refine (CV.out _).mono ?_
  rintro e w1 ⟨rfl, h1⟩
  have B1 := (((Below.refl _ w).alloc (Nat.le_refl _) _).trans (h1.mono (by simp)))
  have X1 := X0.out.below h1
  have F1 : FB w w1 p i j := ⟨X1.2 0 _ rfl, X1.2 1 _ rfl, X1.2 2 _ rfl, B1⟩
  obtain ⟨N, hN⟩ : ∃ N, w1.heap.size = N := ⟨_, rfl⟩
  have C0 := Lib.hid (fun (W : World) (hf : FB w W p i j) (hs : W.heap.size = N) => (c0 W).mono (fun e w' (hh : e = Ending.returned (.slice (some ⟨W.heap.size, 0, none⟩) 4 4) ∧ w'.cell? ⟨W.heap.size, p + 1, none⟩ = some (.string T3) ∧ Below W.heap.size W w') => (⟨by rw [← hs]; exact hh.1, by rw [← hs]; exact hh.2.1, hf.below hh.2.2⟩ : e = Ending.returned (.slice (some ⟨N, 0, none⟩) 4 4) ∧ w'.cell? ⟨N, p + 1, none⟩ = some (.string T3) ∧ FB w w' p i j)))
  have C1 := Lib.hid (fun (W : World) (hf : FB w W p i j) (hs : W.cell? ⟨N, p + 1, none⟩ = some (.string T3)) => (c1 W).mono (fun e w' (hh : e = Ending.returned (.string T1) ∧ Below W.heap.size W w') => (⟨hh.1, (hh.2.cell (p := ⟨N, p + 1, none⟩) (World.block_lt_of_cell? W _ hs)).trans hs, hf.below hh.2⟩ : e = Ending.returned (.string T1) ∧ w'.cell? ⟨N, p + 1, none⟩ = some (.string T3) ∧ FB w w' p i j)))
  have C2 := Lib.hid (fun (W : World) (hf : FB w W p i j) (hs : W.cell? ⟨N, p + 1, none⟩ = some (.string T3)) => (c2 W).mono (fun e w' (hh : e = Ending.returned (.string T2) ∧ Below W.heap.size W w') => (⟨hh.1, (hh.2.cell (p := ⟨N, p + 1, none⟩) (World.block_lt_of_cell? W _ hs)).trans hs, hf.below hh.2⟩ : e = Ending.returned (.string T2) ∧ w'.cell? ⟨N, p + 1, none⟩ = some (.string T3) ∧ FB w w' p i j)))
  have HN := Lib.hid hN
  clear h1 X0 X1 c0 c1 c2 B1 hN
  go_upto_region 3 with fail
  have F2 : FB w w1.drew p i j := F1.below (Below.refl _ _).drew
  have N2 : w1.drew.heap.size = N := HN.out
  clear F1
  refine wp_region_noPanic ?_
  refine wp_region_held_drew (S := fun W => FB w W p i j) (by kernel_rfl) F2 (fun hHeld => ?_)
  clear F2
  generalize w1.drew = Wd at *
  refine wpAnyH_take (i := 1) (oi := { dst := some 8, op := _, type := _, pos := _, after := _, guard := _ }) (v := .pointer (some ⟨w.heap.size, 0, none⟩)) rfl (by kernel_rfl) (by kernel_rfl) (by kernel_rfl) (fun _ _ _ h => h) (Or.inl ⟨by rfl, ?_⟩) hHeld ?_
  · (intro w_ hSw; clear hSw; go_simp; first | done | with_reducible rfl | rfl)
  set_option linter.unusedSimpArgs false in try simp only [Act.put, List.setIfInBounds_toArray, List.set_cons_zero, List.set_cons_succ]
  refine wpAnyH_take (i := 2) (oi := { dst := some 9, op := _, type := _, pos := _, after := _, guard := _ }) (v := .int .i64 ((p : Int) + 1)) rfl (by kernel_rfl) (by kernel_rfl) (by kernel_rfl) (fun _ _ _ h => h) (Or.inl ⟨by rfl, ?_⟩) hHeld ?_
  · (intro w_ hSw; have c_ := hSw.1; clear hSw; go_simp; first | done | with_reducible rfl | rfl)
  set_option linter.unusedSimpArgs false in try simp only [Act.put, List.setIfInBounds_toArray, List.set_cons_zero, List.set_cons_succ]
  refine wpAnyH_take (i := 5) (oi := { dst := some 12, op := _, type := _, pos := _, after := _, guard := _ }) (v := .pointer (some ⟨w.heap.size, 1, none⟩)) rfl (by kernel_rfl) (by kernel_rfl) (by kernel_rfl) (fun _ _ _ h => h) (Or.inl ⟨by rfl, ?_⟩) hHeld ?_
  · (intro w_ hSw; clear hSw; go_simp; first | done | with_reducible rfl | rfl)
  set_option linter.unusedSimpArgs false in try simp only [Act.put, List.setIfInBounds_toArray, List.set_cons_zero, List.set_cons_succ]
  refine wpAnyH_take (i := 6) (oi := { dst := some 13, op := _, type := _, pos := _, after := _, guard := _ }) (v := .int .i64 ((i : Int) + 1)) rfl (by kernel_rfl) (by kernel_rfl) (by kernel_rfl) (fun _ _ _ h => h) (Or.inl ⟨by rfl, ?_⟩) hHeld ?_
  · (intro w_ hSw; have c_ := hSw.2.1; clear hSw; go_simp; first | done | with_reducible rfl | rfl)
  set_option linter.unusedSimpArgs false in try simp only [Act.put, List.setIfInBounds_toArray, List.set_cons_zero, List.set_cons_succ]
  refine wpAnyH_take (i := 10) (oi := { dst := some 17, op := _, type := _, pos := _, after := _, guard := _ }) (v := .pointer (some ⟨w.heap.size, 2, none⟩)) rfl (by kernel_rfl) (by kernel_rfl) (by kernel_rfl) (fun _ _ _ h => h) (Or.inl ⟨by rfl, ?_⟩) hHeld ?_
  · (intro w_ hSw; clear hSw; go_simp; first | done | with_reducible rfl | rfl)
  set_option linter.unusedSimpArgs false in try simp only [Act.put, List.setIfInBounds_toArray, List.set_cons_zero, List.set_cons_succ]
  refine wpAnyH_take (i := 11) (oi := { dst := some 18, op := _, type := _, pos := _, after := _, guard := _ }) (v := .int .i64 ((j : Int) + 1)) rfl (by kernel_rfl) (by kernel_rfl) (by kernel_rfl) (fun _ _ _ h => h) (Or.inl ⟨by rfl, ?_⟩) hHeld ?_
  · (intro w_ hSw; have c_ := hSw.2.2.1; clear hSw; go_simp; first | done | with_reducible rfl | rfl)
  set_option linter.unusedSimpArgs false in try simp only [Act.put, List.setIfInBounds_toArray, List.set_cons_zero, List.set_cons_succ]
  refine wpAnyH_ready (rs := [0]) (by kernel_rfl) (by simp) ?_
  refine AllReadyH.cons rfl (fun K hK => ?_) ?_
  rotate_left
  · exact AllReadyH.nil
  try rw [if_pos (by rfl)]
  go_simp
  refine (C0.out _ hHeld N2).mono ?_
  rintro e w3 ⟨rfl, z0, g0⟩
  clear N2 C0
  go_wp2_with fail
  refine hK.out _ _ g0 (fun _ => ?_)
  clear hK K hHeld
  refine wpAnyH_imp (S' := fun W => FB w W p i j ∧ W.cell? ⟨N, p + 1, none⟩ = some (.string T3)) (fun _ h => h.1) _ _ _ _ ?_
  have hHeld : FB w w3 p i j ∧ w3.cell? ⟨N, p + 1, none⟩ = some (.string T3) := ⟨g0, z0⟩
  clear g0 z0
  set_option linter.unusedSimpArgs false in try simp only [Act.put, List.setIfInBounds_toArray, List.set_cons_zero, List.set_cons_succ]
  refine wpAnyH_take (i := 3) (oi := { dst := some 10, op := _, type := _, pos := _, after := _, guard := _ }) (v := .pointer (some ⟨N, p + 1, none⟩)) rfl (by kernel_rfl) (by kernel_rfl) (by kernel_rfl) (fun _ _ _ h => h) (Or.inl ⟨by rfl, ?_⟩) hHeld ?_
  · (intro w_ hSw; clear hSw; go_simp; first | done | with_reducible rfl | rfl)
  set_option linter.unusedSimpArgs false in try simp only [Act.put, List.setIfInBounds_toArray, List.set_cons_zero, List.set_cons_succ]
  refine wpAnyH_take (i := 4) (oi := { dst := some 11, op := _, type := _, pos := _, after := _, guard := _ }) (v := .string T3) rfl (by kernel_rfl) (by kernel_rfl) (by kernel_rfl) (fun _ _ _ h => h) (Or.inl ⟨by rfl, ?_⟩) hHeld ?_
  · (intro w_ hSw; have c_ := hSw.2; clear hSw; go_simp; first | done | with_reducible rfl | rfl)
  set_option linter.unusedSimpArgs false in try simp only [Act.put, List.setIfInBounds_toArray, List.set_cons_zero, List.set_cons_succ]
  refine wpAnyH_ready (rs := [7]) (by kernel_rfl) (by simp) ?_
  refine AllReadyH.cons rfl (fun K hK => ?_) ?_
  rotate_left
  · exact AllReadyH.nil
  try rw [if_pos (by rfl)]
  go_simp
  refine (C1.out _ hHeld.1 hHeld.2).mono ?_
  rintro e w4 ⟨rfl, z1, g1⟩
  go_wp2_with fail
  refine hK.out _ _ ⟨g1, z1⟩ (fun hHeld => ?_)
  clear hK K g1 z1
  set_option linter.unusedSimpArgs false in try simp only [Act.put, List.setIfInBounds_toArray, List.set_cons_zero, List.set_cons_succ]
  refine wpAnyH_take (i := 8) (oi := { dst := some 15, op := _, type := _, pos := _, after := _, guard := _ }) (v := .string (T3 ++ T1)) rfl (by kernel_rfl) (by kernel_rfl) (by kernel_rfl) (fun _ _ _ h => h) (Or.inl ⟨by rfl, ?_⟩) hHeld ?_
  · (intro w_ hSw; clear hSw; go_simp; first | done | with_reducible rfl | rfl)
  set_option linter.unusedSimpArgs false in try simp only [Act.put, List.setIfInBounds_toArray, List.set_cons_zero, List.set_cons_succ]
  refine wpAnyH_take (i := 9) (oi := { dst := some 16, op := _, type := _, pos := _, after := _, guard := _ }) (v := .string (T3 ++ T1 ++ ⟨#[32, 111, 110, 32]⟩)) rfl (by kernel_rfl) (by kernel_rfl) (by kernel_rfl) (fun _ _ _ h => h) (Or.inl ⟨by rfl, ?_⟩) hHeld ?_
  · (intro w_ hSw; clear hSw; go_simp; first | done | with_reducible rfl | rfl)
  set_option linter.unusedSimpArgs false in try simp only [Act.put, List.setIfInBounds_toArray, List.set_cons_zero, List.set_cons_succ]
  refine wpAnyH_ready (rs := [12]) (by kernel_rfl) (by simp) ?_
  refine AllReadyH.cons rfl (fun K hK => ?_) ?_
  rotate_left
  · exact AllReadyH.nil
  try rw [if_pos (by rfl)]
  go_simp
  refine (C2.out _ hHeld.1 hHeld.2).mono ?_
  rintro e w5 ⟨rfl, z2, g2⟩
  go_wp2_with fail
  refine hK.out _ _ ⟨g2, z2⟩ (fun hHeld => ?_)
  clear hK K g2 z2
  set_option linter.unusedSimpArgs false in try simp only [Act.put, List.setIfInBounds_toArray, List.set_cons_zero, List.set_cons_succ]
  refine wpAnyH_take (i := 13) (oi := { dst := some 20, op := _, type := _, pos := _, after := _, guard := _ }) (v := .string (T3 ++ T1 ++ ⟨#[32, 111, 110, 32]⟩ ++ T2)) rfl (by kernel_rfl) (by kernel_rfl) (by kernel_rfl) (fun _ _ _ h => h) (Or.inl ⟨by rfl, ?_⟩) hHeld ?_
  · (intro w_ hSw; clear hSw; go_simp; first | done | with_reducible rfl | rfl)
  set_option linter.unusedSimpArgs false in try simp only [Act.put, List.setIfInBounds_toArray, List.set_cons_zero, List.set_cons_succ]
  refine wpAnyH_take (i := 14) (oi := { dst := some 21, op := _, type := _, pos := _, after := _, guard := _ }) (v := .string (T3 ++ T1 ++ ⟨#[32, 111, 110, 32]⟩ ++ T2 ++ ⟨#[46]⟩)) rfl (by kernel_rfl) (by kernel_rfl) (by kernel_rfl) (fun _ _ _ h => h) (Or.inl ⟨by rfl, ?_⟩) hHeld ?_
  · (intro w_ hSw; clear hSw; go_simp; first | done | with_reducible rfl | rfl)
  set_option linter.unusedSimpArgs false in try simp only [Act.put, List.setIfInBounds_toArray, List.set_cons_zero, List.set_cons_succ]
  refine wpAnyH_take (i := 15) (oi := { dst := some 2, op := _, type := _, pos := _, after := _, guard := _ }) (v := .string (T3 ++ T1 ++ ⟨#[32, 111, 110, 32]⟩ ++ T2 ++ ⟨#[46]⟩)) rfl (by kernel_rfl) (by kernel_rfl) (by kernel_rfl) (fun _ _ _ h => h) (Or.inl ⟨by rfl, ?_⟩) hHeld ?_
  · (intro w_ hSw; clear hSw; go_simp; first | done | with_reducible rfl | rfl)
  set_option linter.unusedSimpArgs false in try simp only [Act.put, List.setIfInBounds_toArray, List.set_cons_zero, List.set_cons_succ]
  refine wpAnyH_take (i := 16) (oi := { dst := some 3, op := _, type := _, pos := _, after := _, guard := _ }) (v := .bool true) rfl (by kernel_rfl) (by kernel_rfl) (by kernel_rfl) (fun _ _ _ h => h) (Or.inl ⟨by rfl, ?_⟩) hHeld ?_
  · (intro w_ hSw; clear hSw; go_simp; first | done | with_reducible rfl | rfl)
  set_option linter.unusedSimpArgs false in try simp only [Act.put, List.setIfInBounds_toArray, List.set_cons_zero, List.set_cons_succ]
  refine wpAnyH_done (by kernel_rfl) ?_ _
  refine NoPanic.normal ?_
  go_wp2_with fail
  go_ret2
  exact ⟨rfl, hHeld.1.2.2.2⟩
end Go.Proofs.YtgoelkgdjnhklaaDoor
