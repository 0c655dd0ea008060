/- Plain facts on the texts of divided fields: their words, their lengths, and that they tell the field. -/
import Derived.Test.YtmogabnngphfgaaDoorFText
import Derived.Test.YtmogabnngphfgaaDoorSMath
import Derived.Test.YtmogabnngphfgaaDoorPWords
namespace Go.Proofs.YtmogabnngphfgaaDoor

theorem splitAcc_app (c : UInt8) (ys : List UInt8) : ∀ (xs cur : List UInt8), splitAcc c cur (xs ++ c :: ys) = splitAcc c cur xs ++ splitL c ys := by
  intro xs
  induction xs with
  | nil => intro cur; simp [splitAcc, splitL]
  | cons x r ih =>
    intro cur
    rw [List.cons_append, splitAcc, splitAcc]
    split
    · rw [ih]; rfl
    · exact ih _
theorem splitL_app (c : UInt8) (xs ys : List UInt8) : splitL c (xs ++ c :: ys) = splitL c xs ++ splitL c ys := splitAcc_app c ys xs []
theorem splitAcc_word (c : UInt8) : ∀ (xs cur : List UInt8), xs.all (fun x => x != c) = true → splitAcc c cur xs = [cur ++ xs] := by
  intro xs
  induction xs with
  | nil => intro cur _; simp [splitAcc]
  | cons x r ih =>
    intro cur h
    simp only [List.all_cons, Bool.and_eq_true, bne_iff_ne, ne_eq] at h
    rw [splitAcc, if_neg h.1, ih _ h.2]
    simp
theorem splitL_word (c : UInt8) (xs : List UInt8) (h : xs.all (fun x => x != c) = true) : splitL c xs = [xs] := splitAcc_word c xs [] h
theorem wordN_word {i : Nat} (h : i < 9) : (wordN i).data.toList.all (fun x => x != 32) = true := by
  rcases (show i = 0 ∨ i = 1 ∨ i = 2 ∨ i = 3 ∨ i = 4 ∨ i = 5 ∨ i = 6 ∨ i = 7 ∨ i = 8 by omega) with rfl | rfl | rfl | rfl | rfl | rfl | rfl | rfl | rfl <;> decide
theorem wordN_min {i : Nat} (h : i < 9) : 3 ≤ (wordN i).size := by
  rcases (show i = 0 ∨ i = 1 ∨ i = 2 ∨ i = 3 ∨ i = 4 ∨ i = 5 ∨ i = 6 ∨ i = 7 ∨ i = 8 by omega) with rfl | rfl | rfl | rfl | rfl | rfl | rfl | rfl | rfl <;> decide
theorem textN_data {d l i j : Nat} (hd : d ≠ 0) : (textN d l i j).data.toList = (headN d l).data.toList ++ 32 :: ((wordN i).data.toList ++ 32 :: ([97, 110, 100] ++ 32 :: (wordN j).data.toList)) := by
  unfold textN
  rw [if_neg hd]
  simp
theorem textN_split {d l i j : Nat} (hd : d ≠ 0) (hi : i < 9) (hj : j < 9) : splitL 32 (textN d l i j).data.toList = splitL 32 (headN d l).data.toList ++ [(wordN i).data.toList, [97, 110, 100], (wordN j).data.toList] := by
  rw [textN_data hd, splitL_app, splitL_app, splitL_app, splitL_word 32 _ (wordN_word hi), splitL_word 32 [97, 110, 100] (by decide), splitL_word 32 _ (wordN_word hj)]
  rfl
theorem textN_size {d l i j : Nat} (hd : d ≠ 0) (h8 : d < 8) (hl : l < 5) (hi : i < 9) (hj : j < 9) : 7 ≤ (textN d l i j).size ∧ (textN d l i j).size ≤ 60 := by
  have h1 := headN_size h8 hl
  have h2 := wordN_size hi
  have h3 := wordN_size hj
  have h4 := wordN_min hi
  have h5 := wordN_min hj
  unfold textN
  rw [if_neg hd]
  simp only [ByteArray.size_append]
  have e1 : (ByteArray.mk #[32]).size = 1 := rfl
  have e2 : (ByteArray.mk #[32, 97, 110, 100, 32]).size = 5 := rfl
  omega
theorem headN_inj {d l d' l' : Nat} (h1 : d < 8) (h0 : 1 ≤ d) (h2 : l < 5) (h1' : d' < 8) (h0' : 1 ≤ d') (h2' : l' < 5) (h : headN d l = headN d' l') : d = d' ∧ l = l' := by
  have H : ((List.range 8).all fun d => (List.range 5).all fun l => (List.range 8).all fun d' => (List.range 5).all fun l' => d == 0 || d' == 0 || (headN d l).data.toList != (headN d' l').data.toList || (d == d' && l == l')) = true := by decide +kernel
  have H1 := List.all_eq_true.1 (List.all_eq_true.1 (List.all_eq_true.1 (List.all_eq_true.1 H d (List.mem_range.2 h1)) l (List.mem_range.2 h2)) d' (List.mem_range.2 h1')) l' (List.mem_range.2 h2')
  have e0 : (d == 0) = false := by rw [beq_eq_false_iff_ne]; omega
  have e1 : (d' == 0) = false := by rw [beq_eq_false_iff_ne]; omega
  have e2 : ((headN d l).data.toList != (headN d' l').data.toList) = false := by rw [h]; simp
  rw [e0, e1, e2] at H1
  simpa using H1
theorem textN_inj {d l d' l' i j : Nat} (h1 : d < 8) (h0 : 1 ≤ d) (h2 : l < 5) (h1' : d' < 8) (h0' : 1 ≤ d') (h2' : l' < 5) (h : textN d l i j = textN d' l' i j) : d = d' ∧ l = l' := by
  refine headN_inj h1 h0 h2 h1' h0' h2' ?_
  have e := congrArg (fun s : ByteArray => s.data.toList) h
  simp only [textN_data (show d ≠ 0 by omega), textN_data (show d' ≠ 0 by omega)] at e
  have := List.append_cancel_right e
  exact ByteArray.ext (Array.toList_inj.1 this)
/-- The field with this text, if it is divided. -/
def IsF (s : ByteArray) (d l i j : Nat) : Prop := (1 ≤ d ∧ d < 8) ∧ l < 5 ∧ (i < 9 ∧ j < 9) ∧ i ≠ j ∧ textN d l i j = s
theorem isF_words {s : ByteArray} {d l i j : Nat} (h : IsF s d l i j) : ∃ hs : List (List UInt8), 1 ≤ hs.length ∧ splitL 32 s.data.toList = hs ++ [(wordN i).data.toList, [97, 110, 100], (wordN j).data.toList] := by
  obtain ⟨hd, _, hij, _, rfl⟩ := h
  exact ⟨_, (splitL_len 32 (headN d l).data.toList).1, textN_split (by omega) hij.1 hij.2⟩
theorem isF_size {s : ByteArray} {d l i j : Nat} (h : IsF s d l i j) : 7 ≤ s.size ∧ s.size ≤ 60 := by
  obtain ⟨hd, hl, hij, _, rfl⟩ := h
  exact textN_size (by omega) hd.2 hl hij.1 hij.2
theorem isF_parse {s : ByteArray} {d l i j p : Nat} (h : IsF s d l i j) (hp : IsParse 9 s p) : p = 0 := by
  rcases hp with ⟨rfl, _⟩ | ⟨h1, h2, h3⟩
  · rfl
  · have h4 := wordN_size (i := p - 1) (by omega)
    rw [h3] at h4
    have := (isF_size h).1
    omega
end Go.Proofs.YtmogabnngphfgaaDoor
