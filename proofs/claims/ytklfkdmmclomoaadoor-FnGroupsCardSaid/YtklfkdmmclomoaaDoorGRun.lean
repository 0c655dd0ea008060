/- What is read off the words of a string, word after word: the numbers of a group. Nothing here speaks of the program. -/
import Derived.Test.YtklfkdmmclomoaaDoorSMath
import Derived.Test.YtklfkdmmclomoaaDoorGText
import Derived.Test.YtklfkdmmclomoaaDoorAttsL
import Derived.Test.YtklfkdmmclomoaaDoorPWords
import Derived.Test.YtklfkdmmclomoaaDoorGParse
import Derived.Lib.SlicesS
import Derived.Lib.Strings
namespace Go.Proofs.YtklfkdmmclomoaaDoor

def countW (x : ByteArray) : Nat := if x = ⟨#[97, 110]⟩ then 1 else (1 + Lib.idxOfS countL x).toNat
def stem (x : ByteArray) : ByteArray := ⟨(Lib.trimSuffix x.data.toList [115]).toArray⟩
def kindW (x : ByteArray) : Nat := (1 + Lib.idxOfS kindL (stem x)).toNat
def attW (k : Nat) (x : ByteArray) : Nat := (1 + Lib.idxOfS (attsL (k : Int)) x).toNat
noncomputable def tincW (x : ByteArray) : Nat := Classical.choose (isParse_ex x 9)
theorem tincW_is (x : ByteArray) : IsParse 9 x (tincW x) := Classical.choose_spec (isParse_ex x 9)
theorem idx_range (x : ByteArray) : ∀ (zs : List ByteArray) (i : Nat), Lib.idxFromS zs x i = -1 ∨ ((i : Int) ≤ Lib.idxFromS zs x i ∧ Lib.idxFromS zs x i < i + zs.length) := by
  intro zs
  induction zs with
  | nil => intro i; exact .inl rfl
  | cons z zs ih =>
    intro i
    unfold Lib.idxFromS
    split
    · exact .inr ⟨Int.le_refl _, by simp only [List.length_cons]; omega⟩
    · rcases ih (i + 1) with h | ⟨h1, h2⟩
      · exact .inl h
      · refine .inr ⟨by omega, ?_⟩
        simp only [List.length_cons]
        omega
theorem idx_nat (zs : List ByteArray) (x : ByteArray) : ∃ n : Nat, 1 + Lib.idxOfS zs x = (n : Int) ∧ n ≤ zs.length := by
  rcases idx_range x zs 0 with h | ⟨h1, h2⟩
  · exact ⟨0, by unfold Lib.idxOfS; rw [h]; rfl, Nat.zero_le _⟩
  · refine ⟨(1 + Lib.idxOfS zs x).toNat, ?_, ?_⟩
    · unfold Lib.idxOfS; omega
    · unfold Lib.idxOfS; omega
theorem countW_le (x : ByteArray) : countW x ≤ 6 := by
  unfold countW
  split
  · omega
  · obtain ⟨n, h1, h2⟩ := idx_nat countL x
    have : countL.length = 6 := rfl
    omega
theorem countW_idx {x : ByteArray} (h : x ≠ ⟨#[97, 110]⟩) : 1 + Lib.idxOfS countL x = (countW x : Int) := by
  unfold countW
  rw [if_neg h]
  obtain ⟨n, h1, h2⟩ := idx_nat countL x
  omega
theorem kindW_idx (x : ByteArray) : 1 + Lib.idxOfS kindL (stem x) = (kindW x : Int) := by
  unfold kindW
  obtain ⟨n, h1, h2⟩ := idx_nat kindL (stem x)
  omega
theorem kindW_le (x : ByteArray) : kindW x ≤ 8 := by
  unfold kindW
  obtain ⟨n, h1, h2⟩ := idx_nat kindL (stem x)
  have : kindL.length = 8 := rfl
  omega
theorem attW_idx (k : Nat) (x : ByteArray) : 1 + Lib.idxOfS (attsL (k : Int)) x = (attW k x : Int) := by
  unfold attW
  obtain ⟨n, h1, h2⟩ := idx_nat (attsL (k : Int)) x
  omega
theorem attW_le (k : Nat) (x : ByteArray) : attW k x ≤ 2 := by
  unfold attW
  obtain ⟨n, h1, h2⟩ := idx_nat (attsL (k : Int)) x
  have := attsL_len (k : Int)
  omega
/-- Count, kind, attitude so far; the words to come. -/
noncomputable def runG : Nat → Nat → Nat → List ByteArray → Nat × Nat × Nat × Nat
  | c, k, a, [] => (c, k, a, 0)
  | c, k, a, x :: r => if c = 0 then runG (countW x) k a r else if k = 0 then runG c (kindW x) a r else if a = 0 ∧ k ≤ 3 then runG c k (attW k x) r else (c, k, a, tincW x)
theorem runG_count {k a : Nat} {x : ByteArray} {r : List ByteArray} : runG 0 k a (x :: r) = runG (countW x) k a r := by rw [runG, if_pos rfl]
theorem runG_kind {c a : Nat} {x : ByteArray} {r : List ByteArray} (h : c ≠ 0) : runG c 0 a (x :: r) = runG c (kindW x) a r := by rw [runG, if_neg h, if_pos rfl]
theorem runG_att {c k : Nat} {x : ByteArray} {r : List ByteArray} (h : c ≠ 0) (h1 : k ≠ 0) (h2 : k ≤ 3) : runG c k 0 (x :: r) = runG c k (attW k x) r := by rw [runG, if_neg h, if_neg h1, if_pos ⟨rfl, h2⟩]
theorem runG_last {c k a : Nat} {x : ByteArray} {r : List ByteArray} (h : c ≠ 0) (h1 : k ≠ 0) (h2 : ¬ (a = 0 ∧ k ≤ 3)) : runG c k a (x :: r) = (c, k, a, tincW x) := by rw [runG, if_neg h, if_neg h1, if_neg h2]

theorem splitAcc_sp (r : List UInt8) : ∀ (l cur : List UInt8), noSp l = true → splitAcc 32 cur (l ++ 32 :: r) = (cur ++ l) :: splitAcc 32 [] r := by
  intro l
  induction l with
  | nil => intro cur _; simp [splitAcc]
  | cons x l ih =>
    intro cur h
    have h0 : x ≠ 32 := by
      have := List.all_eq_true.1 h x (by simp)
      simpa using this
    have h1 : noSp l = true := List.all_eq_true.2 fun y hy => List.all_eq_true.1 h y (by simp [hy])
    rw [List.cons_append, splitAcc, if_neg h0, ih _ h1]
    simp
theorem splitAcc_nil : ∀ (l cur : List UInt8), noSp l = true → splitAcc 32 cur l = [cur ++ l] := by
  intro l
  induction l with
  | nil => intro cur _; simp [splitAcc]
  | cons x l ih =>
    intro cur h
    have h0 : x ≠ 32 := by
      have := List.all_eq_true.1 h x (by simp)
      simpa using this
    have h1 : noSp l = true := List.all_eq_true.2 fun y hy => List.all_eq_true.1 h y (by simp [hy])
    rw [splitAcc, if_neg h0, ih _ h1]
    simp
theorem split_three (a b c : ByteArray) (ha : noSp a.data.toList = true) (hb : noSp b.data.toList = true) (hc : noSp c.data.toList = true) :
    (splitL 32 (a ++ ⟨#[32]⟩ ++ b ++ ⟨#[32]⟩ ++ c).data.toList).map strOf = [a, b, c] := by
  have e : a ++ ⟨#[32]⟩ ++ b ++ ⟨#[32]⟩ ++ c = strOf (a.data.toList ++ 32 :: (b.data.toList ++ 32 :: c.data.toList)) := by
    show strOf a.data.toList ++ strOf [32] ++ strOf b.data.toList ++ strOf [32] ++ strOf c.data.toList = _
    simp only [strOf_append, List.append_assoc, List.cons_append, List.nil_append]
  rw [e, data_strOf]
  unfold splitL
  rw [splitAcc_sp _ _ _ ha, splitAcc_sp _ _ _ hb, splitAcc_nil _ _ hc]
  rfl
theorem split_four (a b c d : ByteArray) (ha : noSp a.data.toList = true) (hb : noSp b.data.toList = true) (hc : noSp c.data.toList = true) (hd : noSp d.data.toList = true) :
    (splitL 32 (a ++ ⟨#[32]⟩ ++ b ++ ⟨#[32]⟩ ++ c ++ ⟨#[32]⟩ ++ d).data.toList).map strOf = [a, b, c, d] := by
  have e : a ++ ⟨#[32]⟩ ++ b ++ ⟨#[32]⟩ ++ c ++ ⟨#[32]⟩ ++ d = strOf (a.data.toList ++ 32 :: (b.data.toList ++ 32 :: (c.data.toList ++ 32 :: d.data.toList))) := by
    show strOf a.data.toList ++ strOf [32] ++ strOf b.data.toList ++ strOf [32] ++ strOf c.data.toList ++ strOf [32] ++ strOf d.data.toList = _
    simp only [strOf_append, List.append_assoc, List.cons_append, List.nil_append]
  rw [e, data_strOf]
  unfold splitL
  rw [splitAcc_sp _ _ _ ha, splitAcc_sp _ _ _ hb, splitAcc_sp _ _ _ hc, splitAcc_nil _ _ hd]
  rfl
theorem words_all : ((List.range 48).all fun n => noSp (artN (n / 8 + 1) (n % 8 + 1)).data.toList && (noSp (kwordN (n % 8 + 1) (n / 8 + 1)).data.toList && (countW (artN (n / 8 + 1) (n % 8 + 1)) == n / 8 + 1 && kindW (kwordN (n % 8 + 1) (n / 8 + 1)) == n % 8 + 1))) = true := by decide +kernel
theorem words_at {ci j : Nat} (hc : ci < 6) (hj : j < 8) : noSp (artN (ci + 1) (j + 1)).data.toList = true ∧ noSp (kwordN (j + 1) (ci + 1)).data.toList = true ∧ countW (artN (ci + 1) (j + 1)) = ci + 1 ∧ kindW (kwordN (j + 1) (ci + 1)) = j + 1 := by
  have h := List.all_eq_true.1 words_all (8 * ci + j) (List.mem_range.2 (by omega))
  rw [show (8 * ci + j) / 8 = ci by omega, show (8 * ci + j) % 8 = j by omega] at h
  simp only [Bool.and_eq_true, beq_iff_eq] at h
  exact h
theorem atts_all : ((List.range 6).all fun n => noSp (attN (n / 2 + 1) (n % 2 + 1)).data.toList && attW (n / 2 + 1) (attN (n / 2 + 1) (n % 2 + 1)) == n % 2 + 1) = true := by decide +kernel
theorem att_words {j m : Nat} (hj : j < 3) (hm : m < 2) : noSp (attN (j + 1) (m + 1)).data.toList = true ∧ attW (j + 1) (attN (j + 1) (m + 1)) = m + 1 := by
  have h := List.all_eq_true.1 atts_all (2 * j + m) (List.mem_range.2 (by omega))
  rw [show (2 * j + m) / 2 = j by omega, show (2 * j + m) % 2 = m by omega] at h
  simp only [Bool.and_eq_true, beq_iff_eq] at h
  exact h
theorem tincW_word {i : Nat} (h : i < 9) : tincW (wordN i) = i + 1 := isParse_hit (Nat.le_refl _) (tincW_is _) h rfl
/-- The text of a group is read back. -/
theorem runG_text {c k a : Int} {i : Nat} (hi : i < 9) (h : gOkB c k a ((i : Int) + 1) = true) : runG 0 0 0 ((splitL 32 (gtextN c.toNat k.toNat a.toNat i).data.toList).map strOf) = (c.toNat, k.toNat, a.toNat, i + 1) := by
  obtain ⟨g1, g2, _, g4⟩ := gOk_out h
  obtain ⟨ci, rfl⟩ : ∃ n : Nat, c = (n : Int) + 1 := ⟨(c - 1).toNat, by omega⟩
  obtain ⟨j, rfl⟩ : ∃ n : Nat, k = (n : Int) + 1 := ⟨(k - 1).toNat, by omega⟩
  have e1 : ((ci : Int) + 1).toNat = ci + 1 := by omega
  have e2 : ((j : Int) + 1).toNat = j + 1 := by omega
  obtain ⟨w1, w2, w3, w4⟩ := words_at (ci := ci) (j := j) (by omega) (by omega)
  rcases g4 with ⟨g5, g6, g7⟩ | ⟨g5, rfl⟩
  · obtain ⟨m, rfl⟩ : ∃ n : Nat, a = (n : Int) + 1 := ⟨(a - 1).toNat, by omega⟩
    have e3 : ((m : Int) + 1).toNat = m + 1 := by omega
    obtain ⟨v1, v2⟩ := att_words (j := j) (m := m) (by omega) (by omega)
    rw [e1, e2, e3]
    unfold gtextN bareN
    rw [if_neg (by omega), split_four _ _ _ _ w1 w2 v1 (wordN_noSp hi), runG_count, w3, runG_kind (by omega), w4, runG_att (by omega) (by omega) (by omega), v2, runG_last (by omega) (by omega) (by omega), tincW_word hi]
  · rw [e1, e2]
    unfold gtextN bareN
    rw [show Int.toNat 0 = 0 from rfl, if_pos rfl, split_three _ _ _ w1 w2 (wordN_noSp hi), runG_count, w3, runG_kind (by omega), w4, runG_last (by omega) (by omega) (by omega), tincW_word hi]
end Go.Proofs.YtklfkdmmclomoaaDoor
