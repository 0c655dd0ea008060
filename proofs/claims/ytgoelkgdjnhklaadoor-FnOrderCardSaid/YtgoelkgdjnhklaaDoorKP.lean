/- Several small texts in one: Byte, SMath, GLast, PWords, GParse, OText, OParse. -/
import Derived.Test.YtgoelkgdjnhklaaDoorKW
import Derived.Test.YtgoelkgdjnhklaaDoorK2
import Derived.Test.YtgoelkgdjnhklaaDoorKA
import Derived.Test.YtgoelkgdjnhklaaDoorProg
import Derived.WalkLawsBesides
import Derived.IntWalk
import Derived.Deep.QuietTactic
import Derived.Maps.OwnSet
import Derived.Maps.OwnOps
import Derived.Maps.Views
import Derived.Deep.LoopGhost
import Derived.Test.YtgoelkgdjnhklaaDoorKT
namespace Go.Proofs.YtgoelkgdjnhklaaDoor
open Go.RowKit

def ordL : List ByteArray := [⟨#[]⟩, ⟨#[112, 97, 108, 101]⟩, ⟨#[102, 101, 115, 115]⟩, ⟨#[98, 101, 110, 100]⟩, ⟨#[99, 104, 101, 118, 114, 111, 110]⟩, ⟨#[99, 114, 111, 115, 115]⟩, ⟨#[115, 97, 108, 116, 105, 114, 101]⟩, ⟨#[99, 104, 105, 101, 102]⟩]
def ordN (i : Nat) : ByteArray := ordL.getD i ByteArray.empty
theorem ordN_size {i : Nat} (h : i < 8) : (ordN i).size ≤ 7 := by
  rcases (show i = 0 ∨ i = 1 ∨ i = 2 ∨ i = 3 ∨ i = 4 ∨ i = 5 ∨ i = 6 ∨ i = 7 by omega) with rfl | rfl | rfl | rfl | rfl | rfl | rfl | rfl <;> decide
/-- The text of an ordinary without its tincture, and with it. -/
def oheadN (o n : Nat) : ByteArray := if n = 0 then ⟨#[97, 32]⟩ ++ ordN o else ⟨#[97, 32]⟩ ++ ordN o ++ ⟨#[32]⟩ ++ lineN n
def otextN (o n i : Nat) : ByteArray := oheadN o n ++ ⟨#[32]⟩ ++ wordN i
theorem oheadN_size {o n : Nat} (ho : o < 8) (hn : n < 5) : (oheadN o n).size ≤ 19 := by
  have h1 := ordN_size ho
  have h2 := lineN_size hn
  have e1 : (ByteArray.mk #[97, 32]).size = 2 := rfl
  have e2 : (ByteArray.mk #[32]).size = 1 := rfl
  unfold oheadN
  split <;> simp only [ByteArray.size_append] <;> omega
theorem otextN_size {o n i : Nat} (ho : o < 8) (hn : n < 5) (hi : i < 9) : (otextN o n i).size ≤ 26 := by
  have h1 := oheadN_size ho hn
  have h2 := wordN_size hi
  have e2 : (ByteArray.mk #[32]).size = 1 := rfl
  unfold otextN
  simp only [ByteArray.size_append]; omega
theorem ord_cell (w : World) (d : Nat) (h : d < 8) : (w.alloc (.cells #[.string ⟨#[]⟩, .string ⟨#[112, 97, 108, 101]⟩, .string ⟨#[102, 101, 115, 115]⟩, .string ⟨#[98, 101, 110, 100]⟩, .string ⟨#[99, 104, 101, 118, 114, 111, 110]⟩, .string ⟨#[99, 114, 111, 115, 115]⟩, .string ⟨#[115, 97, 108, 116, 105, 114, 101]⟩, .string ⟨#[99, 104, 105, 101, 102]⟩] 9 (0, 0))).cell? ⟨w.heap.size, d, none⟩ = some (.string (ordN d)) := by
  have e : (w.alloc (.cells #[.string ⟨#[]⟩, .string ⟨#[112, 97, 108, 101]⟩, .string ⟨#[102, 101, 115, 115]⟩, .string ⟨#[98, 101, 110, 100]⟩, .string ⟨#[99, 104, 101, 118, 114, 111, 110]⟩, .string ⟨#[99, 114, 111, 115, 115]⟩, .string ⟨#[115, 97, 108, 116, 105, 114, 101]⟩, .string ⟨#[99, 104, 105, 101, 102]⟩] 9 (0, 0))).heap[w.heap.size]? = some (.cells #[.string ⟨#[]⟩, .string ⟨#[112, 97, 108, 101]⟩, .string ⟨#[102, 101, 115, 115]⟩, .string ⟨#[98, 101, 110, 100]⟩, .string ⟨#[99, 104, 101, 118, 114, 111, 110]⟩, .string ⟨#[99, 114, 111, 115, 115]⟩, .string ⟨#[115, 97, 108, 116, 105, 114, 101]⟩, .string ⟨#[99, 104, 105, 101, 102]⟩] 9 (0, 0)) := by
    show (w.heap.push _)[w.heap.size]? = _
    exact Array.getElem?_push_size
  simp only [World.cell?, e]
  rcases (show d = 0 ∨ d = 1 ∨ d = 2 ∨ d = 3 ∨ d = 4 ∨ d = 5 ∨ d = 6 ∨ d = 7 by omega) with rfl | rfl | rfl | rfl | rfl | rfl | rfl | rfl <;> rfl

set_option maxHeartbeats 4000000 in
theorem l6Ordinary_straight (o : Nat) (w : World) (ho : o < 8) :
    Calls Tryd.prog 84 #[.int .i64 (o : Int), .int .i64 0] w fun e w' => e = .returned (.string (⟨#[97, 32]⟩ ++ ordN o)) ∧ Below w.heap.size w w' := by
  have hc := ord_cell w o ho
  have s1 := ordN_size ho
  generalize ordN o = t at *
  have n1 : ¬ 9223372036854775807 < 2 + t.size := by omega
  go_enter Tryd.func84, Tryd.ntmps84
  go_wp2_with fail
  go_ret
  exact ⟨rfl, (Below.refl _ _).alloc (Nat.le_refl _) _⟩
set_option maxHeartbeats 4000000 in
theorem l6Ordinary_lined (o n : Nat) (w : World) (ho : o < 8) (hn0 : 1 ≤ n) (hn : n < 5) :
    Calls Tryd.prog 84 #[.int .i64 (o : Int), .int .i64 (n : Int)] w fun e w' => e = .returned (.string (⟨#[97, 32]⟩ ++ ordN o ++ ⟨#[32]⟩ ++ lineN n)) ∧ Below w.heap.size w w' := by
  have hc := ord_cell w o ho
  have s1 := ordN_size ho
  have s2 := lineN_size hn
  have CL := Lib.hid (fun W => l3LineWord_any n W hn)
  have e0 : (0 : Int) < (n : Int) := by omega
  generalize ordN o = t at *
  generalize lineN n = l at *
  have n1 : ¬ 9223372036854775807 < 2 + t.size := by omega
  have n2 : ¬ 9223372036854775807 < 2 + t.size + 1 := by omega
  have n3 : ¬ 9223372036854775807 < 2 + t.size + 1 + l.size := by omega
  go_enter Tryd.func84, Tryd.ntmps84
  go_wp2_with fail
  refine (CL.out _).mono ?_
  rintro e w1 ⟨rfl, hb⟩
  have B := Lib.hid (((Below.refl _ w).alloc (Nat.le_refl _) _).trans (hb.mono (by simp)))
  clear hb
  go_wp2_with fail
  go_ret
  exact ⟨rfl, B.out⟩
theorem l6Ordinary_any (o n : Nat) (w : World) (ho : o < 8) (hn : n < 5) :
    Calls Tryd.prog 84 #[.int .i64 (o : Int), .int .i64 (n : Int)] w fun e w' => e = .returned (.string (oheadN o n)) ∧ Below w.heap.size w w' := by
  unfold oheadN
  by_cases h0 : n = 0
  · subst h0
    rw [if_pos rfl]
    exact l6Ordinary_straight o w ho
  · rw [if_neg h0]
    exact l6Ordinary_lined o n w ho (by omega) hn
set_option maxHeartbeats 4000000 in
theorem ordText_spec (o n i : Nat) (w : World) (ho1 : 1 ≤ o) (ho : o < 8) (hn : n < 5) (hi : i < 9) :
    Calls Tryd.prog 23 #[.int .i64 (o : Int), .int .i64 (n : Int), .int .i64 ((i : Int) + 1)] w fun e w' => e = .returned (.tuple #[.string (otextN o n i), .bool true]) ∧ Below w.heap.size w w' := by
  have C1 := Lib.hid (fun W => l1In_any (o : Int) 1 7 W true (decide_eq_true (by omega)))
  have C2 := Lib.hid (fun W => l3Line_any (n : Int) W true (decide_eq_true (by omega)))
  have C3 := Lib.hid (fun W => l2Good_any ((i : Int) + 1) W true (decide_eq_true (by omega)))
  have C4 := Lib.hid (fun W => l6Ordinary_any o n W ho hn)
  have C5 := Lib.hid (fun W => l2Word_any i W hi)
  have s1 := oheadN_size ho hn
  have s2 := wordN_size hi
  unfold otextN
  generalize oheadN o n = t at *
  generalize wordN i = t2 at *
  have n1 : ¬ 9223372036854775807 < t.size + 1 := by omega
  have n2 : ¬ 9223372036854775807 < t.size + 1 + t2.size := by omega
  go_enter Tryd.func23, Tryd.ntmps23
  go_wp2_with fail
  refine (C1.out _).mono ?_
  rintro e w1 ⟨rfl, rfl⟩
  go_wp2_with fail
  refine (C2.out _).mono ?_
  rintro e w1 ⟨rfl, rfl⟩
  go_wp2_with fail
  refine (C3.out _).mono ?_
  rintro e w1 ⟨rfl, rfl⟩
  go_wp2_with fail
  refine (C4.out _).mono ?_
  rintro e w1 ⟨rfl, hb⟩
  have B1 := Lib.hid hb
  clear hb
  go_wp2_with fail
  refine (C5.out _).mono ?_
  rintro e w2 ⟨rfl, kb⟩
  have B := Lib.hid (B1.out.trans (kb.mono B1.out.size))
  clear kb B1
  go_wp2_with fail
  go_ret2
  exact ⟨rfl, B.out⟩
theorem ordText_spec_no (o n x : Int) (w : World) (h : (decide (1 ≤ o ∧ o ≤ 7) && (decide (0 ≤ n ∧ n ≤ 4) && decide (1 ≤ x ∧ x ≤ 9))) = false) :
    Calls Tryd.prog 23 #[.int .i64 o, .int .i64 n, .int .i64 x] w fun e w' => e = .returned (.tuple #[.string ByteArray.empty, .bool false]) ∧ Below w.heap.size w w' := by
  obtain ⟨p1, e1⟩ : ∃ p, decide (1 ≤ o ∧ o ≤ 7) = p := ⟨_, rfl⟩
  obtain ⟨p2, e2⟩ : ∃ p, decide (0 ≤ n ∧ n ≤ 4) = p := ⟨_, rfl⟩
  obtain ⟨p3, e3⟩ : ∃ p, decide (1 ≤ x ∧ x ≤ 9) = p := ⟨_, rfl⟩
  rw [e1, e2, e3] at h
  have C1 := Lib.hid (fun W => l1In_any o 1 7 W p1 e1)
  have C2 := Lib.hid (fun W => l3Line_any n W p2 e2)
  have C3 := Lib.hid (fun W => l2Good_any x W p3 e3)
  clear e1 e2 e3
  cases p1
  · clear h
    go_enter Tryd.func23, Tryd.ntmps23
    go_wp2_with fail
    refine (C1.out _).mono ?_
    rintro e w1 ⟨rfl, rfl⟩
    go_wp2_with fail
    go_ret2
    exact ⟨rfl, Below.refl _ _⟩
  · cases p2
    · clear h
      go_enter Tryd.func23, Tryd.ntmps23
      go_wp2_with fail
      refine (C1.out _).mono ?_
      rintro e w1 ⟨rfl, rfl⟩
      go_wp2_with fail
      refine (C2.out _).mono ?_
      rintro e w1 ⟨rfl, rfl⟩
      go_wp2_with fail
      go_ret2
      exact ⟨rfl, Below.refl _ _⟩
    · cases p3
      · clear h
        go_enter Tryd.func23, Tryd.ntmps23
        go_wp2_with fail
        refine (C1.out _).mono ?_
        rintro e w1 ⟨rfl, rfl⟩
        go_wp2_with fail
        refine (C2.out _).mono ?_
        rintro e w1 ⟨rfl, rfl⟩
        go_wp2_with fail
        refine (C3.out _).mono ?_
        rintro e w1 ⟨rfl, rfl⟩
        go_wp2_with fail
        go_ret2
        exact ⟨rfl, Below.refl _ _⟩
      · exact absurd h (by decide)
end Go.Proofs.YtgoelkgdjnhklaaDoor
namespace Go.Proofs.YtgoelkgdjnhklaaDoor
theorem byte_eq {a c : UInt8} (h : a = c) : ((a.toNat : Int) == (c.toNat : Int)) = true := by simp [h]
theorem byte_ne {a c : UInt8} (h : a ≠ c) : ((a.toNat : Int) == (c.toNat : Int)) = false := by
  simp; intro e; exact h (UInt8.toNat_inj.1 (by omega))

end Go.Proofs.YtgoelkgdjnhklaaDoor
namespace Go.Proofs.YtgoelkgdjnhklaaDoor

/-- The pieces between the bytes c: 'cur' is what the present piece holds already. -/
def splitAcc (c : UInt8) (cur : List UInt8) : List UInt8 → List (List UInt8)
  | [] => [cur]
  | x :: r => if x = c then cur :: splitAcc c [] r else splitAcc c (cur ++ [x]) r
def splitL (c : UInt8) (l : List UInt8) : List (List UInt8) := splitAcc c [] l
theorem splitAcc_ne (c : UInt8) (l : List UInt8) : ∀ cur, splitAcc c cur l ≠ [] := by
  induction l with
  | nil => intro cur; simp [splitAcc]
  | cons x r ih => intro cur; rw [splitAcc]; split; · simp
                   exact ih _
theorem splitAcc_len (c : UInt8) (l : List UInt8) : ∀ cur, (splitAcc c cur l).length ≤ l.length + 1 := by
  induction l with
  | nil => intro cur; simp [splitAcc]
  | cons x r ih =>
    intro cur; rw [splitAcc]; split
    · have := ih []; simp; omega
    · have := ih (cur ++ [x]); simp; omega
theorem splitL_len (c : UInt8) (l : List UInt8) : 1 ≤ (splitL c l).length ∧ (splitL c l).length ≤ l.length + 1 := by
  have h := splitAcc_ne c l []
  refine ⟨?_, splitAcc_len c l []⟩
  cases hx : splitL c l with
  | nil => exact absurd hx h
  | cons a b => simp
/-- The piece of s from a to b. -/
def piece (s : ByteArray) (a b : Nat) : List UInt8 := (s.data.toList.take b).drop a
theorem extract_piece (s : ByteArray) (a b : Nat) : s.extract a b = strOf (piece s a b) := by
  apply ByteArray.ext
  apply Array.toList_inj.1
  show (s.extract a b).data.toList = piece s a b
  rw [ByteArray.data_extract]
  unfold piece
  rw [List.drop_take]
  simp
theorem piece_self (s : ByteArray) (a : Nat) : piece s a a = [] := by
  unfold piece; exact List.drop_eq_nil_of_le (by have := List.length_take_le a s.data.toList; omega)
theorem piece_snoc (s : ByteArray) (a k : Nat) (h : k < s.size) (ha : a ≤ k) : piece s a (k + 1) = piece s a k ++ [s[k]] := by
  unfold piece
  rw [take_snoc s k h, List.drop_append_of_le_length (by rw [List.length_take]; simp; omega)]
theorem piece_end (s : ByteArray) (a : Nat) : piece s a s.size = s.data.toList.drop a := by
  unfold piece; rw [take_all s _ (Nat.le_refl _)]

def SplitAt (s : ByteArray) (c : UInt8) (ps : List (List UInt8)) (a k : Nat) : Prop :=
  ps ++ splitAcc c (piece s a k) (s.data.toList.drop k) = splitL c s.data.toList
theorem splitAt_start (s : ByteArray) (c : UInt8) : SplitAt s c [] 0 0 := by
  unfold SplitAt; rw [piece_self]; rfl
theorem splitAt_hit {s : ByteArray} {c : UInt8} {ps : List (List UInt8)} {a k : Nat} (h : SplitAt s c ps a k) (hk : k < s.size) (hc : s[k] = c) :
    SplitAt s c (ps ++ [piece s a k]) (k + 1) (k + 1) := by
  unfold SplitAt at *
  rw [drop_cons s k hk, splitAcc, if_pos hc] at h
  rw [piece_self, ← h]
  simp
theorem splitAt_miss {s : ByteArray} {c : UInt8} {ps : List (List UInt8)} {a k : Nat} (h : SplitAt s c ps a k) (hk : k < s.size) (ha : a ≤ k) (hc : s[k] ≠ c) :
    SplitAt s c ps a (k + 1) := by
  unfold SplitAt at *
  rw [drop_cons s k hk, splitAcc, if_neg hc] at h
  rw [piece_snoc s a k hk ha]
  exact h
theorem splitAt_end {s : ByteArray} {c : UInt8} {ps : List (List UInt8)} {a k : Nat} (h : SplitAt s c ps a k) (hk : k = s.size) :
    ps ++ [piece s a s.size] = splitL c s.data.toList := by
  subst hk
  unfold SplitAt at h
  rw [drop_all s _ (Nat.le_refl _)] at h
  exact h

/-- Joined again. -/
def joinL (sep : List UInt8) : List (List UInt8) → List UInt8
  | [] => []
  | [x] => x
  | x :: y :: r => x ++ sep ++ joinL sep (y :: r)
end Go.Proofs.YtgoelkgdjnhklaaDoor
namespace Go.Proofs.YtgoelkgdjnhklaaDoor
open Go.RowKit Go.Lib

/-- No space stands in l. -/
def noSp (l : List UInt8) : Bool := l.all fun x => x != 32
def PLast (s b d : ByteArray) : Prop := (s = b ++ ⟨#[32]⟩ ++ d ∧ noSp d.data.toList = true) ∨ (noSp s.data.toList = true ∧ b = ⟨#[]⟩ ∧ d = s)
theorem noSp_drop {s : ByteArray} {j : Nat} (h : j < s.size) (hn : noSp (s.data.toList.drop (j + 1)) = true) (hc : s[j] ≠ 32) : noSp (s.data.toList.drop j) = true := by
  rw [drop_cons s j h]
  unfold noSp at *
  rw [List.all_cons, hn, Bool.and_true]
  simpa using hc
theorem pLast_hit {s : ByteArray} {j : Nat} (h : j < s.size) (hn : noSp (s.data.toList.drop (j + 1)) = true) (hc : s[j] = 32) : PLast s (s.extract 0 j) (s.extract (j + 1) s.size) := by
  refine .inl ⟨?_, ?_⟩
  · rw [extract_piece, extract_piece, piece_end]
    apply ByteArray.ext
    apply Array.toList_inj.1
    have e := drop_cons s j h
    have e2 : s.data.toList = s.data.toList.take j ++ s.data.toList.drop j := (List.take_append_drop j _).symm
    rw [e, hc] at e2
    have e3 : piece s 0 j = s.data.toList.take j := by unfold piece; simp
    rw [e3]
    simpa [strOf] using e2
  · rw [extract_piece, piece_end]
    simpa [strOf] using hn
end Go.Proofs.YtgoelkgdjnhklaaDoor
namespace Go.Proofs.YtgoelkgdjnhklaaDoor
open Go.RowKit

/-- Among the first k words p is the number of s, or 0. -/
def IsParse (k : Nat) (s : ByteArray) (p : Nat) : Prop := (p = 0 ∧ ∀ i, i < k → wordN i ≠ s) ∨ (1 ≤ p ∧ p ≤ k ∧ wordN (p - 1) = s)
theorem isParse_ex (s : ByteArray) : ∀ k : Nat, ∃ p, IsParse k s p := by
  intro k
  induction k with
  | zero => exact ⟨0, .inl ⟨rfl, fun i h => by omega⟩⟩
  | succ k ih =>
    obtain ⟨p, hp⟩ := ih
    by_cases h : wordN k = s
    · exact ⟨k + 1, .inr ⟨by omega, by omega, h⟩⟩
    · rcases hp with ⟨rfl, h1⟩ | ⟨h1, h2, h3⟩
      · refine ⟨0, .inl ⟨rfl, fun i hi => ?_⟩⟩
        by_cases e : i = k
        · rw [e]; exact h
        · exact h1 i (by omega)
      · exact ⟨p, .inr ⟨h1, by omega, h3⟩⟩
theorem isParse_le {k : Nat} {s : ByteArray} {p : Nat} (h : IsParse k s p) : p ≤ k := by
  rcases h with ⟨rfl, _⟩ | ⟨_, h, _⟩ <;> omega
theorem isParse_hit {k : Nat} {s : ByteArray} {p i : Nat} (hk : k ≤ 9) (h : IsParse k s p) (hi : i < k) (hs : wordN i = s) : p = i + 1 := by
  rcases h with ⟨rfl, h1⟩ | ⟨h1, h2, h3⟩
  · exact absurd hs (h1 i hi)
  · have := wordN_inj (i := i) (j := p - 1) (by omega) (by omega) (by rw [hs, h3])
    omega
theorem isParse_miss {k : Nat} {s : ByteArray} {p : Nat} (h : IsParse (k + 1) s p) (hs : wordN k ≠ s) : IsParse k s p := by
  rcases h with ⟨rfl, h1⟩ | ⟨h1, h2, h3⟩
  · exact .inl ⟨rfl, fun i hi => h1 i (by omega)⟩
  · refine .inr ⟨h1, ?_, h3⟩
    rcases Nat.lt_or_ge k p with h4 | h4
    · have e : p = k + 1 := by omega
      subst e
      exact absurd h3 hs
    · exact h4
theorem isParse_end {s : ByteArray} {p : Nat} (h : IsParse 9 s p) (hn : ∀ i, i < 9 → wordN i ≠ s) : p = 0 := by
  rcases h with ⟨rfl, _⟩ | ⟨h1, h2, h3⟩
  · rfl
  · exact absurd h3 (hn _ (by omega))

/-- The map of the first k words. -/
def WordMap (D : DataW Unit) (k : Nat) : Prop := ∀ (s : ByteArray) (p : Nat), IsParse k s p → D.atKey (.string s.data.toList) (.lit (.int .i64 0)) = .lit (.int .i64 (p : Int)) ∧ Maps.has D (.string s.data.toList) = decide (0 < p)
theorem wordMap_zero : WordMap (.map []) 0 := by
  intro s p h
  have := isParse_le h
  obtain rfl : p = 0 := by omega
  exact ⟨rfl, rfl⟩
theorem wordMap_put {D : DataW Unit} {k : Nat} (h : WordMap D k) (hm : Maps.IsMap D) (hk : k < 9) : WordMap (D.put (.string (wordN k).data.toList) (.lit (.int .i64 ((k : Int) + 1)))) (k + 1) := by
  intro s p hp
  by_cases e : wordN k = s
  · have e2 := isParse_hit (by omega) hp (Nat.lt_succ_self k) e
    subst e2
    subst e
    rw [Maps.atKey_put_same hm (show WideAt.IsKeyLit (.string _) from trivial), Maps.has_put_same hm (show WideAt.IsKeyLit (.string _) from trivial)]
    exact ⟨rfl, by simp⟩
  · have hne : Lit.string s.data.toList ≠ Lit.string (wordN k).data.toList := fun h => e (by
      simp only [Lit.string.injEq] at h
      exact (ByteArray.ext (Array.toList_inj.1 h)).symm)
    rw [Maps.atKey_put_other hne, Maps.has_put_other hne]
    exact h s p (isParse_miss hp e)

theorem zeroI (w : World) : (zeroValue 3).run Tryd.prog w = .ok (.int .i64 0) w := by kernel_rfl

theorem run_makeMap_nine (w : World) : (Instr.makeMap 159 (some (.int .i64 9))).run Tryd.prog w = .ok (.map (some w.heap.size)) (w.alloc (.map #[] 0)) := by
  simp [Instr.makeMap, run_underlying Tryd.underlying159, asInt, asIntOf, Result.andThen]
theorem run_index_word (k : Nat) (hk : k < 9) (W : World) : (Instr.index 102 (.agg #[.string (wordN 0), .string (wordN 1), .string (wordN 2), .string (wordN 3), .string (wordN 4), .string (wordN 5), .string (wordN 6), .string (wordN 7), .string (wordN 8)]) (.int .i64 (k : Int))).run Tryd.prog W = .ok (.string (wordN k)) W := by
  rcases (show k = 0 ∨ k = 1 ∨ k = 2 ∨ k = 3 ∨ k = 4 ∨ k = 5 ∨ k = 6 ∨ k = 7 ∨ k = 8 by omega) with rfl | rfl | rfl | rfl | rfl | rfl | rfl | rfl | rfl <;> kernel_rfl

set_option maxRecDepth 100000 in
set_option maxHeartbeats 4000000 in
theorem byWord_any (w : World) (hW : WordsLie w) :
    Calls Tryd.prog 133 #[] w fun e w' => e = .returned (.map (some w.heap.size)) ∧ (∃ D : DataW Unit, w'.ownsMap Tryd.prog 9 (plainElem Tryd.prog 3) w.heap.size 9 D ∧ WordMap D 9) ∧ Below w.heap.size w w' := by
  have hmm := run_makeMap_nine w
  have hW := hW.below ((Below.refl w.heap.size w).alloc (Nat.le_refl _) (.map #[] 0))
  have c0 := hW 0 (by omega)
  have c1 := hW 1 (by omega)
  have c2 := hW 2 (by omega)
  have c3 := hW 3 (by omega)
  have c4 := hW 4 (by omega)
  have c5 := hW 5 (by omega)
  have c6 := hW 6 (by omega)
  have c7 := hW 7 (by omega)
  have c8 := hW 8 (by omega)
  clear hW
  go_enter Tryd.func133, Tryd.ntmps133
  go_wp2_with fail
  clear c0 c1 c2 c3 c4 c5 c6 c7 c8 hmm
  go_loopw [6] (fun i wr => ∃ (k : Nat) (D : DataW Unit), k ≤ 9 ∧ i = .int .i64 k ∧ wr.ownsMap Tryd.prog 9 (plainElem Tryd.prog 3) w.heap.size k D ∧ Hid (WordMap D k) ∧ Below w.heap.size w wr) (fun i _ => 9 - (intOf i).toNat)
  case atStart => exact ⟨0, .map [], by omega, rfl, World.ownsMap_made _ _ _ _, by show WordMap _ _; exact wordMap_zero, (Below.refl _ _).alloc (Nat.le_refl _) _⟩
  case round =>
    obtain ⟨k, D, hk, rfl, hmp, HD, hb⟩ := hrel
    by_cases hlt : k < 9
    · have hix := run_index_word k hlt
      have hkey := Lib.hid (WideMaps.keyOf_string_mk (P := Tryd.prog) (k := 9) Tryd.underlying9 (s := wordN k) (by have := wordN_size hlt; unfold maxLen; omega))
      have HD2 := Lib.hid (wordMap_put HD.out hmp.isMap hlt)
      go_wp2_with (at_mapUpdate; refine wpList_mapUpdate_own _ rfl _ _ _ 159 rfl 9 3 (Maps.string_keyed Tryd.underlying9) Tryd.underlying159 (plainElem (H := Unit) Tryd.prog 3) w.heap.size k _ rfl hmp (by unfold maxLen; omega) _ _ _ rfl rfl hkey.out _ [] (plainElem_int Tryd.underlying3 (WalkArith.wf_i64 (by omega))) ?_; intro w1 hmp1 hgr1)
      go_roundw
      case rel => exact ⟨k + 1, _, by omega, by go_num, hmp1, HD2.out, hb.grown hgr1 hb.size (fun q hq => by cases hq; omega)⟩
      case measure => simp [intOf]; omega
    · go_wp2_with fail
      go_ret
      have e9 : k = 9 := by omega
      subst e9
      exact ⟨rfl, ⟨D, hmp, HD.out⟩, hb⟩
set_option maxHeartbeats 1000000 in
theorem parse_impl (s : ByteArray) (p : Nat) (hs : s.size ≤ 1048576) (hp : IsParse 9 s p) (w : World) (hW : WordsLie w) :
    Calls Tryd.prog 80 #[.string s] w fun e w' => e = .returned (.tuple #[.int .i64 (p : Int), .bool (decide (0 < p))]) ∧ Below w.heap.size w w' := by
  have cc := byWord_any w hW
  have hkey := Lib.hid (WideMaps.keyOf_string_mk (P := Tryd.prog) (k := 9) Tryd.underlying9 (s := s) (by unfold maxLen; omega))
  have HP := Lib.hid hp
  obtain ⟨r, hr⟩ : ∃ r, decide (0 < p) = r := ⟨_, rfl⟩
  rw [hr]
  have HR := Lib.hid hr
  clear hW hp hr
  go_enter Tryd.func80, Tryd.ntmps80
  go_wp2_with fail
  refine cc.mono ?_
  rintro e w1 ⟨rfl, ⟨D, hmp, hD⟩, hb⟩
  have HD := Lib.hid (hD s p HP.out)
  have HH := Lib.hid (HD.out.2.trans HR.out)
  clear cc hD
  go_wp2_with (at_lookup; refine wpList_lookup_own_ok_int _ rfl _ _ 159 rfl 9 3 .i64 (Maps.string_keyed Tryd.underlying9) Tryd.underlying159 Tryd.underlying3 (zeroI _) w.heap.size 9 D rfl hmp _ _ rfl hkey.out ?_; rw [HH.out]; intro c hat hwc; have hc : c = (p : Int) := (by have h1 := hat.symm.trans HD.out.1; simpa using h1); subst hc)
  go_ret2
  exact ⟨rfl, hb⟩
end Go.Proofs.YtgoelkgdjnhklaaDoor
namespace Go.Proofs.YtgoelkgdjnhklaaDoor
open Go.RowKit

theorem sp_unique {x b y d : List UInt8} (hy : noSp y = true) (hd : noSp d = true) (h : x ++ 32 :: y = b ++ 32 :: d) : x = b ∧ y = d := by
  have key : ∀ (x y : List UInt8), noSp y = true → ((x ++ 32 :: y).reverse.takeWhile fun c => c != 32) = y.reverse := fun x y hy => by
    have e : (x ++ 32 :: y).reverse = y.reverse ++ (32 :: x.reverse) := by simp
    rw [e, List.takeWhile_append_of_pos (fun a ha => by
      have := List.all_eq_true.1 hy a (by simpa using ha)
      exact this)]
    simp
  have e1 := key x y hy
  rw [h, key b d hd] at e1
  have e2 : y = d := (List.reverse_inj.1 e1).symm
  subst e2
  exact ⟨List.append_cancel_right h, rfl⟩
theorem wordN_noSp {i : Nat} (h : i < 9) : noSp (wordN i).data.toList = true := by
  rcases (show i = 0 ∨ i = 1 ∨ i = 2 ∨ i = 3 ∨ i = 4 ∨ i = 5 ∨ i = 6 ∨ i = 7 ∨ i = 8 by omega) with rfl | rfl | rfl | rfl | rfl | rfl | rfl | rfl | rfl <;> decide
def bValid (n : Nat) : Bool := gOkB ((n / 24 + 1 : Nat) : Int) ((n / 3 % 8 + 1 : Nat) : Int) ((n % 3 : Nat) : Int) 1
def bText (n : Nat) : List UInt8 := (bareN (n / 24 + 1) (n / 3 % 8 + 1) (n % 3)).data.toList
set_option maxRecDepth 100000 in
theorem bare_all : ((List.range 144).all fun n => !bValid n || (List.range 144).find? (fun m => bValid m && bText m == bText n) == some n) = true := by decide +kernel
theorem bare_one {c k a c' k' a' : Nat} (h : gOkB (c : Int) (k : Int) (a : Int) 1 = true) (h' : gOkB (c' : Int) (k' : Int) (a' : Int) 1 = true) (he : bareN c k a = bareN c' k' a') : c = c' ∧ k = k' ∧ a = a' := by
  have code : ∀ {c k a : Nat}, gOkB (c : Int) (k : Int) (a : Int) 1 = true → ∃ n, n < 144 ∧ n / 24 + 1 = c ∧ n / 3 % 8 + 1 = k ∧ n % 3 = a := fun {c k a} h => by
    have g := gOk_out h
    exact ⟨((c - 1) * 8 + (k - 1)) * 3 + a, by omega, by omega, by omega, by omega⟩
  obtain ⟨n, hn, e1, e2, e3⟩ := code h
  obtain ⟨m, hm, e1', e2', e3'⟩ := code h'
  have find : ∀ n, n < 144 → bValid n = true → (List.range 144).find? (fun m => bValid m && bText m == bText n) = some n := fun n hn hv => by
    have := List.all_eq_true.1 bare_all n (List.mem_range.2 hn)
    rw [hv] at this
    simpa using this
  have v1 : bValid n = true := by unfold bValid; rw [e1, e2, e3]; exact h
  have v2 : bValid m = true := by unfold bValid; rw [e1', e2', e3']; exact h'
  have t : bText n = bText m := by unfold bText; rw [e1, e2, e3, e1', e2', e3', he]
  have f1 := find n hn v1
  rw [t, find m hm v2] at f1
  have := Option.some.inj f1
  subst this
  exact ⟨e1.symm.trans e1', e2.symm.trans e2', e3.symm.trans e3'⟩
theorem gOk_any {c k a t t' : Int} (h : gOkB c k a t = true) (h1 : 1 ≤ t') (h9 : t' ≤ 9) : gOkB c k a t' = true := by
  have := gOk_out h
  exact gOk_in ⟨this.1, this.2.1, ⟨h1, h9⟩, this.2.2.2⟩
/-- What ParseGroup answers. -/
def GAns (s : ByteArray) (c k a t : Int) (ok : Bool) : Prop := (ok = true ∧ gOkB c k a t = true ∧ gtextN c.toNat k.toNat a.toNat (t - 1).toNat = s) ∨ (ok = false ∧ (c = 0 ∧ k = 0 ∧ a = 0 ∧ t = 0) ∧ ∀ c k a t : Int, gOkB c k a t = true → gtextN c.toNat k.toNat a.toNat (t - 1).toNat ≠ s)
/-- Where a text's last space is. -/
theorem pLast_text {s b d : ByteArray} (h : PLast s b d) {c k a t : Int} (hg : gOkB c k a t = true) (ht : gtextN c.toNat k.toNat a.toNat (t - 1).toNat = s) : b = bareN c.toNat k.toNat a.toNat ∧ d = wordN (t - 1).toNat := by
  have g := gOk_out hg
  have hi : (t - 1).toNat < 9 := by omega
  have e0 : s.data.toList = (bareN c.toNat k.toNat a.toNat).data.toList ++ 32 :: (wordN (t - 1).toNat).data.toList := by rw [← ht]; unfold gtextN; simp
  rcases h with ⟨h1, h2⟩ | ⟨h1, _, _⟩
  · have e1 : s.data.toList = b.data.toList ++ 32 :: d.data.toList := by rw [h1]; simp
    rw [e0] at e1
    have := sp_unique (wordN_noSp hi) h2 e1
    exact ⟨ByteArray.ext (Array.toList_inj.1 this.1.symm), ByteArray.ext (Array.toList_inj.1 this.2.symm)⟩
  · exfalso
    rw [e0] at h1
    unfold noSp at h1
    simp at h1
theorem bareN_ne {c k a : Nat} : bareN c k a ≠ ⟨#[]⟩ := by
  intro e
  have := congrArg ByteArray.size e
  have e1 : (ByteArray.mk #[32]).size = 1 := rfl
  have e2 : (ByteArray.mk #[]).size = 0 := rfl
  unfold bareN at this
  split at this <;> simp only [ByteArray.size_append] at this <;> omega
end Go.Proofs.YtgoelkgdjnhklaaDoor
namespace Go.Proofs.YtgoelkgdjnhklaaDoor
open Go.RowKit Go.Lib

/-- Which ordinary the text s is of, or that it is of none. -/
def OAns (s : ByteArray) (o n x : Int) (ok : Bool) : Prop :=
  (ok = true ∧ (1 ≤ o ∧ o ≤ 7) ∧ (0 ≤ n ∧ n ≤ 4) ∧ (1 ≤ x ∧ x ≤ 9) ∧ otextN o.toNat n.toNat (x - 1).toNat = s) ∨
  (ok = false ∧ o = 0 ∧ n = 0 ∧ x = 0 ∧ ∀ o' n' i : Nat, 1 ≤ o' → o' < 8 → n' < 5 → i < 9 → otextN o' n' i ≠ s)
theorem ohead_all : ((List.range 35).all fun m => (List.range 35).all fun m' => m == m' || !((oheadN (m / 5 + 1) (m % 5)).data.toList == (oheadN (m' / 5 + 1) (m' % 5)).data.toList)) = true := by decide +kernel
theorem ohead_one {o n o' n' : Nat} (h1 : 1 ≤ o) (h2 : o < 8) (h3 : n < 5) (g1 : 1 ≤ o') (g2 : o' < 8) (g3 : n' < 5) (he : oheadN o n = oheadN o' n') : o = o' ∧ n = n' := by
  have h := List.all_eq_true.1 (List.all_eq_true.1 ohead_all ((o - 1) * 5 + n) (List.mem_range.2 (by omega))) ((o' - 1) * 5 + n') (List.mem_range.2 (by omega))
  rw [show ((o - 1) * 5 + n) / 5 + 1 = o by omega, show ((o - 1) * 5 + n) % 5 = n by omega, show ((o' - 1) * 5 + n') / 5 + 1 = o' by omega, show ((o' - 1) * 5 + n') % 5 = n' by omega, he] at h
  simp at h
  omega
theorem oheadN_ne {o n : Nat} : oheadN o n ≠ ⟨#[]⟩ := by
  intro e
  have := congrArg ByteArray.size e
  have e1 : (ByteArray.mk #[97, 32]).size = 2 := rfl
  have e2 : (ByteArray.mk #[]).size = 0 := rfl
  unfold oheadN at this
  split at this <;> simp only [ByteArray.size_append] at this <;> omega
theorem otext_inj {o n i o' n' i' : Nat} (hi : i < 9) (hi' : i' < 9) (h : otextN o n i = otextN o' n' i') : oheadN o n = oheadN o' n' ∧ wordN i = wordN i' := by
  have e := congrArg (fun s : ByteArray => s.data.toList) h
  unfold otextN at e
  simp only [ByteArray.data_append, Array.toList_append, List.append_assoc] at e
  have := sp_unique (wordN_noSp hi) (wordN_noSp hi') e
  exact ⟨ByteArray.ext (Array.toList_inj.1 this.1), ByteArray.ext (Array.toList_inj.1 this.2)⟩
theorem pLast_otext {s b d : ByteArray} (h : PLast s b d) {o n i : Nat} (hi : i < 9) (ht : otextN o n i = s) : b = oheadN o n ∧ d = wordN i := by
  have et : s.data.toList = (oheadN o n).data.toList ++ 32 :: (wordN i).data.toList := by
    rw [← ht]; unfold otextN; simp
  rcases h with ⟨e, hd⟩ | ⟨hn, _, _⟩
  · have e2 : s.data.toList = b.data.toList ++ 32 :: d.data.toList := by rw [e]; simp
    have := sp_unique (wordN_noSp hi) hd (et.symm.trans e2)
    exact ⟨(ByteArray.ext (Array.toList_inj.1 this.1)).symm, (ByteArray.ext (Array.toList_inj.1 this.2)).symm⟩
  · rw [et] at hn
    unfold noSp at hn
    simp at hn
def UOrd (w : World) (ot nt : Nat) (e : Ending) (w' : World) : Prop := if ot < 8 then e = .returned (.tuple #[.int .i64 (ot : Int), .int .i64 (nt : Int), .bool true]) ∧ Below w.heap.size w w' else e = .returned (.tuple #[.int .i64 0, .int .i64 0, .bool false]) ∧ Below w.heap.size w w'
theorem uOrd_hit {w w' : World} {ot nt : Nat} {e : Ending} (hd : ot < 8) (h : e = .returned (.tuple #[.int .i64 (ot : Int), .int .i64 (nt : Int), .bool true]) ∧ Below w.heap.size w w') : UOrd w ot nt e w' := by unfold UOrd; rw [if_pos hd]; exact h
theorem uOrd_miss {w w' : World} {ot nt : Nat} {e : Ending} (hd : ¬ ot < 8) (h : e = .returned (.tuple #[.int .i64 0, .int .i64 0, .bool false]) ∧ Below w.heap.size w w') : UOrd w ot nt e w' := by unfold UOrd; rw [if_neg hd]; exact h
end Go.Proofs.YtgoelkgdjnhklaaDoor
