/- Several small texts in one: CutW, FPMath, PMathF, PField, RPOrd. -/
import Derived.Test.YtgoelkgdjnhklaaDoorKV
import Derived.Test.YtgoelkgdjnhklaaDoorShelf
import Derived.Test.YtgoelkgdjnhklaaDoorKW
import Derived.Test.YtgoelkgdjnhklaaDoorKP
import Derived.Lib.IndexMore
import Derived.Test.YtgoelkgdjnhklaaDoorKR
import Derived.Test.YtgoelkgdjnhklaaDoorShape
import Derived.Test.YtgoelkgdjnhklaaDoorKD
import Derived.Test.YtgoelkgdjnhklaaDoorKS
namespace Go.Proofs.YtgoelkgdjnhklaaDoor
open Go.RowKit

/-- The first word that stands, with a space, at the front of s: its number, counted from k + 1, and what follows; or 0 and s. -/
def cutFrom (s : List UInt8) : List (List UInt8) → Nat → Nat × List UInt8
  | [], _ => (0, s)
  | t :: r, k => if Lib.hasPrefix s (t ++ [32]) = true then (k + 1, s.drop (t.length + 1)) else cutFrom s r (k + 1)
def bytesOfL (T : List ByteArray) : List (List UInt8) := T.map fun t => t.data.toList
theorem drop_at {T : List ByteArray} {k : Nat} {t : ByteArray} (h : T[k]? = some t) : (bytesOfL T).drop k = t.data.toList :: (bytesOfL T).drop (k + 1) := by
  have h1 : (bytesOfL T)[k]? = some t.data.toList := by unfold bytesOfL; rw [List.getElem?_map, h]; rfl
  obtain ⟨hk, e⟩ := List.getElem?_eq_some_iff.1 h1
  rw [List.drop_eq_getElem_cons hk, e]
set_option maxHeartbeats 2000000 in
theorem cutWord_40 (T : List ByteArray) (g n : Nat) (s : ByteArray) (w : World) (hn : T.length = n) (hn7 : n ≤ 7) (hsz : ∀ t ∈ T, t.size ≤ 40) (hT : ∀ i t, T[i]? = some t → w.cell? ⟨g, i, none⟩ = some (.string t)) :
    Calls Tryd.prog 79 #[.string s, .slice (some ⟨g, 0, none⟩) n n] w fun e w' => e = .returned (.tuple #[.int .i64 ((cutFrom s.data.toList (bytesOfL T) 0).1 : Int), .string ⟨(cutFrom s.data.toList (bytesOfL T) 0).2.toArray⟩]) ∧ ∃ q, w' = w.drewN q := by
  obtain ⟨R, hR⟩ : ∃ R, cutFrom s.data.toList (bytesOfL T) 0 = R := ⟨_, rfl⟩
  rw [hR]
  have HT := Lib.hid hT
  have HS := Lib.hid hsz
  have HR := Lib.hid hR
  clear hT hsz hR
  go_enter Tryd.func79, Tryd.ntmps79
  go_wp2_with fail
  go_loopw [12] (fun x wr => ∃ k q : Nat, k ≤ n ∧ x = .int .i64 (k : Int) ∧ Hid (cutFrom s.data.toList ((bytesOfL T).drop k) k = R) ∧ wr = w.drewN q) (fun x _ => 10 - (Lib.intOf x).toNat)
  case atStart => exact ⟨0, 0, by omega, rfl, HR.out, rfl⟩
  case round =>
    obtain ⟨k, q, hk, rfl, HK, rfl⟩ := hrel
    by_cases hlt : k < n
    · obtain ⟨t, ht⟩ : ∃ t, T[k]? = some t := ⟨T[k]'(by omega), List.getElem?_eq_getElem (by omega)⟩
      have ct : (w.drewN q).cell? ⟨g, k, none⟩ = some (.string t) := HT.out k t ht
      have st := HS.out t (List.mem_of_getElem? ht)
      have hd := HK.out
      rw [drop_at ht, cutFrom] at hd
      have n1 : ¬ 9223372036854775807 < t.size + 1 := by omega
      have cp := fun W => Tryd.strings_CutPrefix s (t ++ ⟨#[32]⟩) W
      have ep : (t ++ (⟨#[32]⟩ : ByteArray)).data.toList = t.data.toList ++ [32] := by simp
      rw [ep] at cp
      cases hb : Lib.hasPrefix s.data.toList (t.data.toList ++ [32])
      · rw [hb] at cp
        rw [if_neg (by rw [hb]; decide)] at hd
        have HD := Lib.hid hd
        have CP := Lib.hid cp
        clear hd cp ep hb ht HK
        go_wp2_with fail
        refine (CP.out _).mono ?_
        rintro e w' ⟨rfl, rfl⟩
        go_wp2_with fail
        go_roundw
        case rel => exact ⟨k + 1, _, by omega, by go_num, HD, rfl⟩
        case measure => simp [Lib.intOf]; omega
      · rw [hb] at cp
        rw [if_pos hb] at hd
        have e3 : Lib.trimPrefix s.data.toList (t.data.toList ++ [32]) = s.data.toList.drop (t.data.toList.length + 1) := by
          unfold Lib.trimPrefix
          rw [if_pos hb]
          simp
        rw [e3] at cp
        have e4 : R.1 = k + 1 := by rw [← hd]
        have e5 : R.2 = s.data.toList.drop (t.data.toList.length + 1) := by rw [← hd]
        rw [← e5] at cp
        have HE := Lib.hid e4
        have CP := Lib.hid cp
        clear hd cp ep hb ht HK e3 e4 e5
        go_wp2_with fail
        refine (CP.out _).mono ?_
        rintro e w' ⟨rfl, rfl⟩
        go_wp2_with fail
        go_ret2
        exact ⟨by rw [HE.out]; simp, _, rfl⟩
    · obtain rfl : k = n := by omega
      have hd := HK.out
      have e0 : (bytesOfL T).drop k = [] := List.drop_eq_nil_of_le (by unfold bytesOfL; simp; omega)
      rw [e0, cutFrom] at hd
      have HD := Lib.hid hd
      clear hd e0 HK
      go_wp2_with fail
      go_ret2
      exact ⟨by rw [← HD.out]; show Ending.returned (Value.tuple #[Value.int .i64 0, Value.string s]) = _; simp, _, rfl⟩
theorem cutWord_any (T : List ByteArray) (g n : Nat) (s : ByteArray) (w : World) (hn : T.length = n) (hn7 : n ≤ 7) (hsz : ∀ t ∈ T, t.size ≤ 20) (hT : ∀ i t, T[i]? = some t → w.cell? ⟨g, i, none⟩ = some (.string t)) :
    Calls Tryd.prog 79 #[.string s, .slice (some ⟨g, 0, none⟩) n n] w fun e w' => e = .returned (.tuple #[.int .i64 ((cutFrom s.data.toList (bytesOfL T) 0).1 : Int), .string ⟨(cutFrom s.data.toList (bytesOfL T) 0).2.toArray⟩]) ∧ ∃ q, w' = w.drewN q :=
  cutWord_40 T g n s w hn hn7 (fun t h => Nat.le_trans (hsz t h) (by omega)) hT
end Go.Proofs.YtgoelkgdjnhklaaDoor
namespace Go.Proofs.YtgoelkgdjnhklaaDoor

theorem splitAcc_app (c : UInt8) (ys : List UInt8) : ∀ (xs cur : List UInt8), splitAcc c cur (xs ++ c :: ys) = splitAcc c cur xs ++ splitL c ys := by
  intro xs
  induction xs with
  | nil => intro cur; simp [splitAcc, splitL]
  | cons x r ih =>
    intro cur
    rw [List.cons_append, splitAcc, splitAcc]
    split
    · rw [ih]; rfl
    · exact ih _
theorem splitL_app (c : UInt8) (xs ys : List UInt8) : splitL c (xs ++ c :: ys) = splitL c xs ++ splitL c ys := splitAcc_app c ys xs []
theorem splitAcc_word (c : UInt8) : ∀ (xs cur : List UInt8), xs.all (fun x => x != c) = true → splitAcc c cur xs = [cur ++ xs] := by
  intro xs
  induction xs with
  | nil => intro cur _; simp [splitAcc]
  | cons x r ih =>
    intro cur h
    simp only [List.all_cons, Bool.and_eq_true, bne_iff_ne, ne_eq] at h
    rw [splitAcc, if_neg h.1, ih _ h.2]
    simp
theorem splitL_word (c : UInt8) (xs : List UInt8) (h : xs.all (fun x => x != c) = true) : splitL c xs = [xs] := splitAcc_word c xs [] h
theorem wordN_word {i : Nat} (h : i < 9) : (wordN i).data.toList.all (fun x => x != 32) = true := by
  rcases (show i = 0 ∨ i = 1 ∨ i = 2 ∨ i = 3 ∨ i = 4 ∨ i = 5 ∨ i = 6 ∨ i = 7 ∨ i = 8 by omega) with rfl | rfl | rfl | rfl | rfl | rfl | rfl | rfl | rfl <;> decide
theorem wordN_min {i : Nat} (h : i < 9) : 3 ≤ (wordN i).size := by
  rcases (show i = 0 ∨ i = 1 ∨ i = 2 ∨ i = 3 ∨ i = 4 ∨ i = 5 ∨ i = 6 ∨ i = 7 ∨ i = 8 by omega) with rfl | rfl | rfl | rfl | rfl | rfl | rfl | rfl | rfl <;> decide
theorem textN_data {d l i j : Nat} (hd : d ≠ 0) : (textN d l i j).data.toList = (headN d l).data.toList ++ 32 :: ((wordN i).data.toList ++ 32 :: ([97, 110, 100] ++ 32 :: (wordN j).data.toList)) := by
  unfold textN
  rw [if_neg hd]
  simp
theorem textN_split {d l i j : Nat} (hd : d ≠ 0) (hi : i < 9) (hj : j < 9) : splitL 32 (textN d l i j).data.toList = splitL 32 (headN d l).data.toList ++ [(wordN i).data.toList, [97, 110, 100], (wordN j).data.toList] := by
  rw [textN_data hd, splitL_app, splitL_app, splitL_app, splitL_word 32 _ (wordN_word hi), splitL_word 32 [97, 110, 100] (by decide), splitL_word 32 _ (wordN_word hj)]
  rfl
theorem textN_size {d l i j : Nat} (hd : d ≠ 0) (h8 : d < 8) (hl : l < 5) (hi : i < 9) (hj : j < 9) : 7 ≤ (textN d l i j).size ∧ (textN d l i j).size ≤ 60 := by
  have h1 := headN_size h8 hl
  have h2 := wordN_size hi
  have h3 := wordN_size hj
  have h4 := wordN_min hi
  have h5 := wordN_min hj
  unfold textN
  rw [if_neg hd]
  simp only [ByteArray.size_append]
  have e1 : (ByteArray.mk #[32]).size = 1 := rfl
  have e2 : (ByteArray.mk #[32, 97, 110, 100, 32]).size = 5 := rfl
  omega
theorem headN_inj {d l d' l' : Nat} (h1 : d < 8) (h0 : 1 ≤ d) (h2 : l < 5) (h1' : d' < 8) (h0' : 1 ≤ d') (h2' : l' < 5) (h : headN d l = headN d' l') : d = d' ∧ l = l' := by
  have H : ((List.range 8).all fun d => (List.range 5).all fun l => (List.range 8).all fun d' => (List.range 5).all fun l' => d == 0 || d' == 0 || (headN d l).data.toList != (headN d' l').data.toList || (d == d' && l == l')) = true := by decide +kernel
  have H1 := List.all_eq_true.1 (List.all_eq_true.1 (List.all_eq_true.1 (List.all_eq_true.1 H d (List.mem_range.2 h1)) l (List.mem_range.2 h2)) d' (List.mem_range.2 h1')) l' (List.mem_range.2 h2')
  have e0 : (d == 0) = false := by rw [beq_eq_false_iff_ne]; omega
  have e1 : (d' == 0) = false := by rw [beq_eq_false_iff_ne]; omega
  have e2 : ((headN d l).data.toList != (headN d' l').data.toList) = false := by rw [h]; simp
  rw [e0, e1, e2] at H1
  simpa using H1
theorem textN_inj {d l d' l' i j : Nat} (h1 : d < 8) (h0 : 1 ≤ d) (h2 : l < 5) (h1' : d' < 8) (h0' : 1 ≤ d') (h2' : l' < 5) (h : textN d l i j = textN d' l' i j) : d = d' ∧ l = l' := by
  refine headN_inj h1 h0 h2 h1' h0' h2' ?_
  have e := congrArg (fun s : ByteArray => s.data.toList) h
  simp only [textN_data (show d ≠ 0 by omega), textN_data (show d' ≠ 0 by omega)] at e
  have := List.append_cancel_right e
  exact ByteArray.ext (Array.toList_inj.1 this)
/-- The field with this text, if it is divided. -/
def IsF (s : ByteArray) (d l i j : Nat) : Prop := (1 ≤ d ∧ d < 8) ∧ l < 5 ∧ (i < 9 ∧ j < 9) ∧ i ≠ j ∧ textN d l i j = s
theorem isF_words {s : ByteArray} {d l i j : Nat} (h : IsF s d l i j) : ∃ hs : List (List UInt8), 1 ≤ hs.length ∧ splitL 32 s.data.toList = hs ++ [(wordN i).data.toList, [97, 110, 100], (wordN j).data.toList] := by
  obtain ⟨hd, _, hij, _, rfl⟩ := h
  exact ⟨_, (splitL_len 32 (headN d l).data.toList).1, textN_split (by omega) hij.1 hij.2⟩
theorem isF_size {s : ByteArray} {d l i j : Nat} (h : IsF s d l i j) : 7 ≤ s.size ∧ s.size ≤ 60 := by
  obtain ⟨hd, hl, hij, _, rfl⟩ := h
  exact textN_size (by omega) hd.2 hl hij.1 hij.2
theorem isF_parse {s : ByteArray} {d l i j p : Nat} (h : IsF s d l i j) (hp : IsParse 9 s p) : p = 0 := by
  rcases hp with ⟨rfl, _⟩ | ⟨h1, h2, h3⟩
  · rfl
  · have h4 := wordN_size (i := p - 1) (by omega)
    rw [h3] at h4
    have := (isF_size h).1
    omega
end Go.Proofs.YtgoelkgdjnhklaaDoor
namespace Go.Proofs.YtgoelkgdjnhklaaDoor

def divTL : List (List UInt8) := bytesOfL divT
def lineTL : List (List UInt8) := bytesOfL lineT
/-- The number of a tincture's word, or 0. -/
def tinP (s : List UInt8) : Nat := match wordL.findIdx? (fun t => t.data.toList == s) with
  | some i => i + 1
  | none => 0
/-- What the program reads out of a text before it compares. -/
def readP (s : List UInt8) : Nat × Nat × Nat × Nat :=
  let a := cutFrom s divTL 0
  let b := cutFrom a.2 lineTL 0
  let c := Lib.cut b.2 [32, 97, 110, 100, 32]
  (a.1, b.1, tinP c.1, tinP c.2.1)
set_option maxRecDepth 100000 in
theorem readP_all : ((List.range 8).all fun d => (List.range 5).all fun l => (List.range 9).all fun i => (List.range 9).all fun j => (d == 0 && (l != 0 || j != 0)) || (d != 0 && i == j) || readP (textN d l i j).data.toList == (d, l, i + 1, if d == 0 then 0 else j + 1)) = true := by decide +kernel
theorem readP_plain {i : Nat} (hi : i < 9) : readP (textN 0 0 i 0).data.toList = (0, 0, i + 1, 0) := by
  have H := List.all_eq_true.1 (List.all_eq_true.1 (List.all_eq_true.1 (List.all_eq_true.1 readP_all 0 (List.mem_range.2 (by omega))) 0 (List.mem_range.2 (by omega))) i (List.mem_range.2 hi)) 0 (List.mem_range.2 (by omega))
  simpa using H
theorem readP_div {d l i j : Nat} (h0 : 1 ≤ d) (hd : d < 8) (hl : l < 5) (hi : i < 9) (hj : j < 9) (hij : i ≠ j) : readP (textN d l i j).data.toList = (d, l, i + 1, j + 1) := by
  have H := List.all_eq_true.1 (List.all_eq_true.1 (List.all_eq_true.1 (List.all_eq_true.1 readP_all d (List.mem_range.2 hd)) l (List.mem_range.2 hl)) i (List.mem_range.2 hi)) j (List.mem_range.2 hj)
  have e0 : (d == 0) = false := by rw [beq_eq_false_iff_ne]; omega
  have e1 : (i == j) = false := by rw [beq_eq_false_iff_ne]; exact hij
  rw [e0, e1] at H
  simpa using H
/-- The text of a valid field is read as the field. -/
theorem readP_valid {d l f s : Int} (h : FOk d l f s) : readP (textN d.toNat l.toNat (f - 1).toNat (s - 1).toNat).data.toList = (d.toNat, l.toNat, f.toNat, s.toNat) := by
  obtain ⟨hd, hl, hf, hs⟩ := h
  rcases hs with ⟨rfl, rfl, rfl⟩ | ⟨h0, hs, hne⟩
  · have := readP_plain (i := (f - 1).toNat) (by omega)
    rw [show (f - 1).toNat + 1 = f.toNat by omega] at this
    exact this
  · have := readP_div (d := d.toNat) (l := l.toNat) (i := (f - 1).toNat) (j := (s - 1).toNat) (by omega) (by omega) (by omega) (by omega) (by omega) (by omega)
    rw [show (f - 1).toNat + 1 = f.toNat by omega, show (s - 1).toNat + 1 = s.toNat by omega] at this
    exact this
end Go.Proofs.YtgoelkgdjnhklaaDoor
namespace Go.Proofs.YtgoelkgdjnhklaaDoor
open Go.RowKit

theorem strOf_bytes (s : ByteArray) : (⟨s.data.toList.toArray⟩ : ByteArray) = s := by simp
theorem tinP_is (c : List UInt8) : IsParse 9 ⟨c.toArray⟩ (tinP c) := by
  unfold tinP
  cases h : wordL.findIdx? (fun t => t.data.toList == c) with
  | none =>
    refine .inl ⟨rfl, fun i hi e => ?_⟩
    have h1 := List.findIdx?_eq_none_iff.1 h (wordN i) (by
      have hl : i < wordL.length := hi
      have : wordN i = wordL[i] := by simp [wordN, List.getD, hl]
      rw [this]; exact List.getElem_mem _)
    rw [e] at h1
    simp at h1
  | some i =>
    obtain ⟨hl, h1, _⟩ := List.findIdx?_eq_some_iff_getElem.1 h
    have h9 : wordL.length = 9 := rfl
    refine .inr ⟨Nat.succ_le_succ (Nat.zero_le i), (by omega : i + 1 ≤ 9), ?_⟩
    show wordN (i + 1 - 1) = _
    have e : wordN (i + 1 - 1) = wordL[i] := by simp [wordN, List.getD, hl]
    rw [e]
    have h2 : wordL[i].data.toList = c := by simpa using h1
    rw [← h2]
theorem cutFrom_len (s : List UInt8) : ∀ (T : List (List UInt8)) (k : Nat), (cutFrom s T k).2.length ≤ s.length := by
  intro T
  induction T with
  | nil => intro k; exact Nat.le_refl _
  | cons t r ih =>
    intro k
    rw [cutFrom]
    split
    · simp
    · exact ih _
theorem cut_len (s sep : List UInt8) : (Lib.cut s sep).1.length ≤ s.length ∧ (Lib.cut s sep).2.1.length ≤ s.length := by
  unfold Lib.cut
  split
  · simp; omega
  · simp
theorem divT_small : ∀ t ∈ divT, t.size ≤ 20 := by decide
theorem lineT_small : ∀ t ∈ lineT, t.size ≤ 20 := by decide
theorem divT_lie {w : World} (h : DivsLie w) : ∀ i t, divT[i]? = some t → w.cell? ⟨6, i, none⟩ = some (.string t) := by
  intro i t ht
  have hi : i < 7 := (List.getElem?_eq_some_iff.1 ht).1
  have h1 := h i hi
  rcases (show i = 0 ∨ i = 1 ∨ i = 2 ∨ i = 3 ∨ i = 4 ∨ i = 5 ∨ i = 6 by omega) with rfl | rfl | rfl | rfl | rfl | rfl | rfl <;> (cases ht; exact h1)
theorem lineT_lie {w : World} (h : LinesLie w) : ∀ i t, lineT[i]? = some t → w.cell? ⟨1, i, none⟩ = some (.string t) := by
  intro i t ht
  have hi : i < 4 := (List.getElem?_eq_some_iff.1 ht).1
  have h1 := h i hi
  rcases (show i = 0 ∨ i = 1 ∨ i = 2 ∨ i = 3 by omega) with rfl | rfl | rfl | rfl <;> (cases ht; exact h1)

end Go.Proofs.YtgoelkgdjnhklaaDoor
namespace Go.Proofs.YtgoelkgdjnhklaaDoor
open Go.RowKit

def ordTL : List (List UInt8) := bytesOfL (ordL.drop 1)
/-- What the program reads out of a text before it compares. -/
def readO (s : List UInt8) : Nat × Nat × Nat :=
  let a := cutFrom (Lib.trimPrefix s [97, 32]) ordTL 0
  let b := cutFrom a.2 lineTL 0
  (a.1, b.1, tinP b.2)
set_option maxRecDepth 100000 in
theorem readO_all : ((List.range 7).all fun o => (List.range 5).all fun n => (List.range 9).all fun i => readO (otextN (o + 1) n i).data.toList == (o + 1, n, i + 1)) = true := by decide +kernel
theorem readO_text {o n i : Nat} (h1 : 1 ≤ o) (h8 : o < 8) (hn : n < 5) (hi : i < 9) : readO (otextN o n i).data.toList = (o, n, i + 1) := by
  have H := List.all_eq_true.1 (List.all_eq_true.1 (List.all_eq_true.1 readO_all (o - 1) (List.mem_range.2 (by omega))) n (List.mem_range.2 hn)) i (List.mem_range.2 hi)
  rw [show o - 1 + 1 = o by omega] at H
  simpa using H
theorem ordT_small : ∀ t ∈ ordL.drop 1, t.size ≤ 20 := by decide
theorem ordT_lie {w : World} (h : OrdsLie w) : ∀ i t, (ordL.drop 1)[i]? = some t → w.cell? ⟨0, i, none⟩ = some (.string t) := by
  intro i t ht
  have hi : i < 7 := (List.getElem?_eq_some_iff.1 ht).1
  have h1 := h i hi
  rcases (show i = 0 ∨ i = 1 ∨ i = 2 ∨ i = 3 ∨ i = 4 ∨ i = 5 ∨ i = 6 by omega) with rfl | rfl | rfl | rfl | rfl | rfl | rfl <;> (cases ht; exact h1)
theorem trimPrefix_len (s p : List UInt8) : (Lib.trimPrefix s p).length ≤ s.length := Lib.trimPrefix_le s p
set_option maxRecDepth 100000 in
set_option maxHeartbeats 8000000 in
theorem parseOrd_walk (s t : ByteArray) (p1 p2 p3 : Nat) (r0 r1 r2 : List UInt8) (ok v : Bool) (w : World) (hT : OTabs w)
    (k0 : ∀ W, Calls Tryd.prog 78 #[.string s, .string ⟨#[97, 32]⟩] W fun e w' => e = .returned (.string ⟨r0.toArray⟩) ∧ W = w')
    (k1 : ∀ W, OrdsLie W → Calls Tryd.prog 79 #[.string ⟨r0.toArray⟩, .slice (some ⟨0, 0, none⟩) 7 7] W fun e w' => e = .returned (.tuple #[.int .i64 (p1 : Int), .string ⟨r1.toArray⟩]) ∧ ∃ q, w' = W.drewN q)
    (k2 : ∀ W, LinesLie W → Calls Tryd.prog 79 #[.string ⟨r1.toArray⟩, .slice (some ⟨1, 0, none⟩) 4 4] W fun e w' => e = .returned (.tuple #[.int .i64 (p2 : Int), .string ⟨r2.toArray⟩]) ∧ ∃ q, w' = W.drewN q)
    (k4 : ∀ W, WordsLie W → Calls Tryd.prog 80 #[.string ⟨r2.toArray⟩] W fun e w' => e = .returned (.tuple #[.int .i64 (p3 : Int), .bool (decide (0 < p3))]) ∧ Below W.heap.size W w')
    (k6 : ∀ W, OTabs W → Calls Tryd.prog 21 #[.int .i64 (p1 : Int), .int .i64 (p2 : Int), .int .i64 (p3 : Int)] W fun e w' => e = .returned (.tuple #[.string t, .bool ok]) ∧ Below W.heap.size W w')
    (hv : (ok && decide (t = s)) = v) :
    Calls Tryd.prog 22 #[.string s] w fun e w' => e = .returned (if v = true then .tuple #[.int .i64 (p1 : Int), .int .i64 (p2 : Int), .int .i64 (p3 : Int), .bool true] else .tuple #[.int .i64 0, .int .i64 0, .int .i64 0, .bool false]) ∧ Below w.heap.size w w' := by
  have H0 := Lib.hid k0
  have H1 := Lib.hid k1
  have H2 := Lib.hid k2
  have H4 := Lib.hid k4
  have H6 := Lib.hid k6
  have HT := Lib.hid hT
  clear k0 k1 k2 k4 k6 hT
  go_enter Tryd.func22, Tryd.ntmps22
  go_wp2_with fail
  refine (H0.out _).mono ?_
  rintro e w1 ⟨rfl, rfl⟩
  go_wp2_with fail
  refine (H1.out _ HT.out.2.2).mono ?_
  rintro e w1 ⟨rfl, q, rfl⟩
  have B1 := Lib.hid (below_drewN' (Below.refl w.heap.size w) q)
  generalize w.drewN q = W1 at *
  go_wp2_with fail
  refine (H2.out _ (HT.out.below B1.out).2.1).mono ?_
  rintro e w1 ⟨rfl, q2, rfl⟩
  have B2 := Lib.hid (below_drewN' B1.out q2)
  clear B1
  go_wp2_with fail
  refine (H4.out _ (HT.out.below B2.out).1).mono ?_
  rintro e w3 ⟨rfl, hb3⟩
  have B3 := Lib.hid (B2.out.trans (hb3.mono B2.out.size))
  clear hb3 B2
  go_wp2_with fail
  refine (H6.out _ (HT.out.below B3.out)).mono ?_
  rintro e w7 ⟨rfl, hb7⟩
  have B7 := Lib.hid (B3.out.trans (hb7.mono B3.out.size))
  clear hb7 B3 H0 H1 H2 H4 H6 HT
  cases ok
  · obtain rfl : v = false := by simpa using hv.symm
    go_wp2_with fail
    exact bodyPost_ret (v := .tuple #[.int .i64 0, .int .i64 0, .int .i64 0, .bool false]) (by simp [results, Tryd.results22, go_sem]) rfl ⟨rfl, B7.out⟩
  · by_cases hts : t = s
    · obtain rfl : v = true := by rw [← hv]; simp [hts]
      subst hts
      clear hv
      go_wp2_with fail
      exact bodyPost_ret (v := .tuple #[.int .i64 (p1 : Int), .int .i64 (p2 : Int), .int .i64 (p3 : Int), .bool true]) (by simp [results, Tryd.results22, go_sem]) rfl ⟨rfl, B7.out⟩
    · obtain rfl : v = false := by rw [← hv]; simp [hts]
      have hne := str_ne hts
      clear hv hts
      go_wp2_with fail
      exact bodyPost_ret (v := .tuple #[.int .i64 0, .int .i64 0, .int .i64 0, .bool false]) (by simp [results, Tryd.results22, go_sem]) rfl ⟨rfl, B7.out⟩
/-- Whatever the string: the program's answer is the ordinary whose text it is, or none. -/
theorem parseOrd_impl (s : ByteArray) (hs : s.size ≤ 1048576) : ∃ (o n x : Int) (ok : Bool), OAns s o n x ok ∧ ∀ w, OTabs w → Calls Tryd.prog 22 #[.string s] w fun e w' => e = .returned (.tuple #[.int .i64 o, .int .i64 n, .int .i64 x, .bool ok]) ∧ Below w.heap.size w w' := by
  obtain ⟨r0, h0⟩ : ∃ r0, Lib.trimPrefix s.data.toList [97, 32] = r0 := ⟨_, rfl⟩
  obtain ⟨p1, r1, h1⟩ : ∃ p1 r1, cutFrom r0 ordTL 0 = (p1, r1) := ⟨_, _, rfl⟩
  obtain ⟨p2, r2, h2⟩ : ∃ p2 r2, cutFrom r1 lineTL 0 = (p2, r2) := ⟨_, _, rfl⟩
  have hR : readO s.data.toList = (p1, p2, tinP r2) := by
    unfold readO
    simp only [h0, h1, h2]
  have q0 : s.data.toList.length = s.size := by simp
  have q00 : r0.length ≤ s.size := by
    have := trimPrefix_len s.data.toList [97, 32]
    rw [h0] at this
    omega
  have q1 : r1.length ≤ s.size := by
    have := cutFrom_len r0 ordTL 0
    rw [h1] at this
    simp only at this
    omega
  have q2 : r2.length ≤ s.size := by
    have := cutFrom_len r1 lineTL 0
    rw [h2] at this
    simp only at this
    omega
  have k0 : ∀ W, Calls Tryd.prog 78 #[.string s, .string ⟨#[97, 32]⟩] W fun e w' => e = .returned (.string ⟨r0.toArray⟩) ∧ W = w' := fun W => by
    have c := Tryd.strings_TrimPrefix s ⟨#[97, 32]⟩ W
    rw [show Lib.trimPrefix s.data.toList (⟨#[97, 32]⟩ : ByteArray).data.toList = r0 from h0] at c
    exact c.mono (fun e w' h => ⟨h.1, h.2.symm⟩)
  have k1 : ∀ W, OrdsLie W → Calls Tryd.prog 79 #[.string ⟨r0.toArray⟩, .slice (some ⟨0, 0, none⟩) 7 7] W fun e w' => e = .returned (.tuple #[.int .i64 (p1 : Int), .string ⟨r1.toArray⟩]) ∧ ∃ q, w' = W.drewN q := fun W hW => by
    have c := cutWord_any (ordL.drop 1) 0 7 ⟨r0.toArray⟩ W rfl (by decide) ordT_small (ordT_lie hW)
    rw [show cutFrom (⟨r0.toArray⟩ : ByteArray).data.toList (bytesOfL (ordL.drop 1)) 0 = (p1, r1) from h1] at c
    exact c
  have k2 : ∀ W, LinesLie W → Calls Tryd.prog 79 #[.string ⟨r1.toArray⟩, .slice (some ⟨1, 0, none⟩) 4 4] W fun e w' => e = .returned (.tuple #[.int .i64 (p2 : Int), .string ⟨r2.toArray⟩]) ∧ ∃ q, w' = W.drewN q := fun W hW => by
    have c := cutWord_any lineT 1 4 ⟨r1.toArray⟩ W rfl (by decide) lineT_small (lineT_lie hW)
    rw [show cutFrom (⟨r1.toArray⟩ : ByteArray).data.toList (bytesOfL lineT) 0 = (p2, r2) from h2] at c
    exact c
  have z2 : (⟨r2.toArray⟩ : ByteArray).size = r2.length := rfl
  have k4 := fun W hW => parse_impl ⟨r2.toArray⟩ (tinP r2) (by omega) (tinP_is r2) W hW
  have hno : ∀ o' n' i : Nat, 1 ≤ o' → o' < 8 → n' < 5 → i < 9 → otextN o' n' i = s → (p1 = o' ∧ p2 = n' ∧ tinP r2 = i + 1) := by
    intro o' n' i g1 g2 g3 g4 e
    have h := readO_text g1 g2 g3 g4
    rw [e, hR] at h
    simp only [Prod.mk.injEq] at h
    exact h
  by_cases hF : (1 ≤ (p1 : Int) ∧ (p1 : Int) ≤ 7) ∧ (0 ≤ (p2 : Int) ∧ (p2 : Int) ≤ 4) ∧ (1 ≤ (tinP r2 : Int) ∧ (tinP r2 : Int) ≤ 9)
  · obtain ⟨ho, hn, hx⟩ := hF
    have k6 := fun W hW => ordText_impl ho hn hx W hW
    by_cases ht : oN (p1 : Int) (p2 : Int) (tinP r2 : Int) = s
    · refine ⟨p1, p2, tinP r2, true, .inl ⟨rfl, ho, hn, hx, ht⟩, fun w hT => ?_⟩
      exact parseOrd_walk s _ p1 p2 _ r0 r1 r2 true true w hT k0 k1 k2 k4 k6 (by rw [decide_eq_true ht]; rfl)
    · refine ⟨0, 0, 0, false, .inr ⟨rfl, rfl, rfl, rfl, fun o' n' i g1 g2 g3 g4 e => ?_⟩, fun w hT => ?_⟩
      · obtain ⟨e1, e2, e3⟩ := hno o' n' i g1 g2 g3 g4 e
        apply ht
        unfold oN
        rw [show (p1 : Int).toNat = o' by omega, show (p2 : Int).toNat = n' by omega, show ((tinP r2 : Int) - 1).toNat = i by omega]
        exact e
      · exact parseOrd_walk s _ p1 p2 _ r0 r1 r2 true false w hT k0 k1 k2 k4 k6 (by rw [decide_eq_false ht]; rfl)
  · have k6 := fun W (_ : OTabs W) => ordText_impl_no p1 p2 (tinP r2) W (by
      rcases Bool.eq_false_or_eq_true (decide (1 ≤ (p1 : Int) ∧ (p1 : Int) ≤ 7) && (decide (0 ≤ (p2 : Int) ∧ (p2 : Int) ≤ 4) && decide (1 ≤ (tinP r2 : Int) ∧ (tinP r2 : Int) ≤ 9))) with h | h
      · simp only [Bool.and_eq_true, decide_eq_true_eq] at h
        exact absurd h hF
      · exact h)
    refine ⟨0, 0, 0, false, .inr ⟨rfl, rfl, rfl, rfl, fun o' n' i g1 g2 g3 g4 e => ?_⟩, fun w hT => ?_⟩
    · obtain ⟨e1, e2, e3⟩ := hno o' n' i g1 g2 g3 g4 e
      exact hF (by omega)
    · exact parseOrd_walk s _ p1 p2 _ r0 r1 r2 false false w hT k0 k1 k2 k4 k6 rfl
end Go.Proofs.YtgoelkgdjnhklaaDoor
