/- Contract: Go's strings.Cut at a text of one byte: what stands before its first place, at every string. -/
import Derived.Test.YtacpacllpjddlaaDoorStands
import Derived.Test.YtacpacllpjddlaaDoorSMath
import Derived.Lib.IndexLaws
import Derived.Deep.QuietTactic
import Derived.BigQuiet
import Derived.IntWalk
namespace Go.Proofs.YtacpacllpjddlaaDoor
open Go.RowKit

/-- What stands before the first c (all, if there is none). -/
def before (c : UInt8) : List UInt8 → List UInt8
  | [] => []
  | x :: r => if x = c then [] else x :: before c r
theorem before_head (c : UInt8) (l : List UInt8) : ∀ cur, (splitAcc c cur l).head? = some (cur ++ before c l) := by
  induction l with
  | nil => intro cur; simp [splitAcc, before]
  | cons x r ih =>
    intro cur; rw [splitAcc, before]; split
    · simp
    · rw [ih]; simp
theorem before_len (c : UInt8) (l : List UInt8) : (before c l).length ≤ l.length := by
  induction l with
  | nil => simp [before]
  | cons x r ih => rw [before]; split <;> simp; omega
theorem before_has (c : UInt8) (l : List UInt8) : has (before c l) c = false := by
  unfold has
  induction l with
  | nil => rfl
  | cons x r ih =>
    rw [before]; split
    · rfl
    · rename_i h
      simp only [List.contains_cons, ih, Bool.or_false, beq_eq_false_iff_ne]
      exact fun e => h e.symm
theorem before_eq (c : UInt8) (l r : List UInt8) (h : has l c = false) : before c (l ++ c :: r) = l := by
  induction l with
  | nil => simp [before]
  | cons x t ih =>
    unfold has at *
    simp only [List.contains_cons, Bool.or_eq_false_iff, beq_eq_false_iff_ne] at h
    rw [List.cons_append, before, if_neg (fun e => h.1 e.symm), ih h.2]
theorem before_none (c : UInt8) (l : List UInt8) (h : Lib.indexByte l c = -1) : before c l = l := by
  induction l with
  | nil => rfl
  | cons x r ih =>
    rw [Lib.indexByte] at h
    by_cases hx : x = c
    · subst hx; simp at h
    · rw [if_neg (by simpa using hx)] at h
      have hge := Lib.indexByte_ge r c
      rw [before, if_neg hx, ih]
      split at h
      · rename_i h1; simpa using h1
      · omega
theorem before_some (c : UInt8) (l : List UInt8) : ∀ n : Nat, Lib.indexByte l c = n → before c l = l.take n ∧ n < l.length := by
  induction l with
  | nil => intro n h; simp [Lib.indexByte] at h
  | cons x r ih =>
    intro n h
    rw [Lib.indexByte] at h
    by_cases hx : x = c
    · rw [if_pos (by simpa using hx)] at h
      obtain rfl : n = 0 := by omega
      rw [before, if_pos hx]; simp
    · rw [if_neg (by simpa using hx)] at h
      have hge := Lib.indexByte_ge r c
      by_cases h1 : Lib.indexByte r c = -1
      · rw [h1] at h; simp at h
      · rw [if_neg (by simpa using h1)] at h
        obtain ⟨m, rfl⟩ : ∃ m, n = m + 1 := ⟨n - 1, by omega⟩
        have h4 : Lib.indexByte r c = (m : Int) := by omega
        obtain ⟨h2, h3⟩ := ih m h4
        rw [before, if_neg hx, h2]
        exact ⟨rfl, by simp; omega⟩

theorem icut_any (s : ByteArray) (c : UInt8) (w : World) (hs : s.size ≤ maxLen) :
    Calls Tryd.prog 40 #[.string s, .string ⟨#[c]⟩] w fun e w' => ∃ r b, e = .returned (.tuple #[.string (strOf (before c s.data.toList)), .string r, .bool b]) ∧ ∃ m, w' = w.drewN m := by
  unfold maxLen at hs
  have ci := Tryd.stringslite_Index_one s c w
  by_cases hi : Lib.indexByte s.data.toList c = -1
  · have HB := Lib.hid (before_none c _ hi)
    rw [hi] at ci
    clear hi
    go_enter Tryd.func40, Tryd.ntmps40
    go_wp2_with (go_at_call 42; refine ci.mono ?_; rintro e w' ⟨rfl, rfl⟩)
    go_ret3
    exact ⟨_, _, by rw [HB.out]; rfl, 0, rfl⟩
  · have hge := Lib.indexByte_ge s.data.toList c
    obtain ⟨n, hn⟩ : ∃ n : Nat, Lib.indexByte s.data.toList c = n := ⟨(Lib.indexByte s.data.toList c).toNat, by omega⟩
    obtain ⟨hb, hlt⟩ := before_some c _ n hn
    have hlt' : n < s.size := by simpa using hlt
    have HB : Hid (s.extract 0 n = strOf (before c s.data.toList)) := by
      show _ = _
      rw [extract_piece, hb]; rfl
    rw [hn] at ci
    clear hi hge hn hb hlt
    have hw1 : IntKind.i64.wrap ((n : Int) + 1) = (n : Int) + 1 := IntWalk.i64_in _ (by omega)
    go_enter Tryd.func40, Tryd.ntmps40
    go_wp2_with (go_at_call 42; refine ci.mono ?_; rintro e w' ⟨rfl, rfl⟩)
    go_quiet (fail)
    clear hw1
    go_wp2
    go_ret3
    exact ⟨_, _, by rw [← HB.out]; rfl, _, rfl⟩

theorem cut_any (s : ByteArray) (c : UInt8) (w : World) (hs : s.size ≤ maxLen) :
    Calls Tryd.prog 34 #[.string s, .string ⟨#[c]⟩] w fun e w' => ∃ r b, e = .returned (.tuple #[.string (strOf (before c s.data.toList)), .string r, .bool b]) ∧ ∃ m, w' = w.drewN m := by
  have ci := icut_any s c w hs
  go_enter Tryd.func34, Tryd.ntmps34
  go_wp2_with (go_at_call 40; refine ci.mono ?_; rintro e w' ⟨r, b, rfl, m, rfl⟩)
  go_ret3
  exact ⟨_, _, rfl, _, rfl⟩
end Go.Proofs.YtacpacllpjddlaaDoor
