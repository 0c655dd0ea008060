/- Several small texts in one: GRun, GWord, GJoin, GRead. -/
import Derived.Test.YtgeidnnjljpdkaaDoorKP
import Derived.Test.YtgeidnnjljpdkaaDoorK3
import Derived.Test.YtgeidnnjljpdkaaDoorKG
import Derived.Lib.SlicesS
import Derived.Lib.Strings
import Derived.Test.YtgeidnnjljpdkaaDoorShelf
import Derived.IntWalk
import Derived.Deep.QuietTactic
import Derived.BigQuiet
import Derived.Test.YtgeidnnjljpdkaaDoorKD
import Derived.Test.YtgeidnnjljpdkaaDoorKC
import Derived.Test.YtgeidnnjljpdkaaDoorK8
import Derived.Test.YtgeidnnjljpdkaaDoorK7
import Derived.RangeFuncWrites
import Derived.RangeFuncCalls
import Derived.RangeFuncLeaves
import Derived.Shelf.Abstract
import Derived.Scope
import Derived.OwnWalkIn
import Derived.TacticsInMore
namespace Go.Proofs.YtgeidnnjljpdkaaDoor

def countW (x : ByteArray) : Nat := if x = ⟨#[97, 110]⟩ then 1 else (1 + Lib.idxOfS countL x).toNat
def stem (x : ByteArray) : ByteArray := ⟨(Lib.trimSuffix x.data.toList [115]).toArray⟩
def kindW (x : ByteArray) : Nat := (1 + Lib.idxOfS kindL (stem x)).toNat
def attW (k : Nat) (x : ByteArray) : Nat := (1 + Lib.idxOfS (attsL (k : Int)) x).toNat
noncomputable def tincW (x : ByteArray) : Nat := Classical.choose (isParse_ex x 9)
theorem tincW_is (x : ByteArray) : IsParse 9 x (tincW x) := Classical.choose_spec (isParse_ex x 9)
theorem idx_range (x : ByteArray) : ∀ (zs : List ByteArray) (i : Nat), Lib.idxFromS zs x i = -1 ∨ ((i : Int) ≤ Lib.idxFromS zs x i ∧ Lib.idxFromS zs x i < i + zs.length) := by
  intro zs
  induction zs with
  | nil => intro i; exact .inl rfl
  | cons z zs ih =>
    intro i
    unfold Lib.idxFromS
    split
    · exact .inr ⟨Int.le_refl _, by simp only [List.length_cons]; omega⟩
    · rcases ih (i + 1) with h | ⟨h1, h2⟩
      · exact .inl h
      · refine .inr ⟨by omega, ?_⟩
        simp only [List.length_cons]
        omega
theorem idx_nat (zs : List ByteArray) (x : ByteArray) : ∃ n : Nat, 1 + Lib.idxOfS zs x = (n : Int) ∧ n ≤ zs.length := by
  rcases idx_range x zs 0 with h | ⟨h1, h2⟩
  · exact ⟨0, by unfold Lib.idxOfS; rw [h]; rfl, Nat.zero_le _⟩
  · refine ⟨(1 + Lib.idxOfS zs x).toNat, ?_, ?_⟩
    · unfold Lib.idxOfS; omega
    · unfold Lib.idxOfS; omega
theorem countW_le (x : ByteArray) : countW x ≤ 6 := by
  unfold countW
  split
  · omega
  · obtain ⟨n, h1, h2⟩ := idx_nat countL x
    have : countL.length = 6 := rfl
    omega
theorem countW_idx {x : ByteArray} (h : x ≠ ⟨#[97, 110]⟩) : 1 + Lib.idxOfS countL x = (countW x : Int) := by
  unfold countW
  rw [if_neg h]
  obtain ⟨n, h1, h2⟩ := idx_nat countL x
  omega
theorem kindW_idx (x : ByteArray) : 1 + Lib.idxOfS kindL (stem x) = (kindW x : Int) := by
  unfold kindW
  obtain ⟨n, h1, h2⟩ := idx_nat kindL (stem x)
  omega
theorem kindW_le (x : ByteArray) : kindW x ≤ 8 := by
  unfold kindW
  obtain ⟨n, h1, h2⟩ := idx_nat kindL (stem x)
  have : kindL.length = 8 := rfl
  omega
theorem attW_idx (k : Nat) (x : ByteArray) : 1 + Lib.idxOfS (attsL (k : Int)) x = (attW k x : Int) := by
  unfold attW
  obtain ⟨n, h1, h2⟩ := idx_nat (attsL (k : Int)) x
  omega
theorem attW_le (k : Nat) (x : ByteArray) : attW k x ≤ 2 := by
  unfold attW
  obtain ⟨n, h1, h2⟩ := idx_nat (attsL (k : Int)) x
  have := attsL_len (k : Int)
  omega
/-- Count, kind, attitude so far; the words to come. -/
noncomputable def runG : Nat → Nat → Nat → List ByteArray → Nat × Nat × Nat × Nat
  | c, k, a, [] => (c, k, a, 0)
  | c, k, a, x :: r => if c = 0 then runG (countW x) k a r else if k = 0 then runG c (kindW x) a r else if a = 0 ∧ k ≤ 3 then runG c k (attW k x) r else (c, k, a, tincW x)
theorem runG_count {k a : Nat} {x : ByteArray} {r : List ByteArray} : runG 0 k a (x :: r) = runG (countW x) k a r := by rw [runG, if_pos rfl]
theorem runG_kind {c a : Nat} {x : ByteArray} {r : List ByteArray} (h : c ≠ 0) : runG c 0 a (x :: r) = runG c (kindW x) a r := by rw [runG, if_neg h, if_pos rfl]
theorem runG_att {c k : Nat} {x : ByteArray} {r : List ByteArray} (h : c ≠ 0) (h1 : k ≠ 0) (h2 : k ≤ 3) : runG c k 0 (x :: r) = runG c k (attW k x) r := by rw [runG, if_neg h, if_neg h1, if_pos ⟨rfl, h2⟩]
theorem runG_last {c k a : Nat} {x : ByteArray} {r : List ByteArray} (h : c ≠ 0) (h1 : k ≠ 0) (h2 : ¬ (a = 0 ∧ k ≤ 3)) : runG c k a (x :: r) = (c, k, a, tincW x) := by rw [runG, if_neg h, if_neg h1, if_neg h2]

theorem splitAcc_sp (r : List UInt8) : ∀ (l cur : List UInt8), noSp l = true → splitAcc 32 cur (l ++ 32 :: r) = (cur ++ l) :: splitAcc 32 [] r := by
  intro l
  induction l with
  | nil => intro cur _; simp [splitAcc]
  | cons x l ih =>
    intro cur h
    have h0 : x ≠ 32 := by
      have := List.all_eq_true.1 h x (by simp)
      simpa using this
    have h1 : noSp l = true := List.all_eq_true.2 fun y hy => List.all_eq_true.1 h y (by simp [hy])
    rw [List.cons_append, splitAcc, if_neg h0, ih _ h1]
    simp
theorem splitAcc_nil : ∀ (l cur : List UInt8), noSp l = true → splitAcc 32 cur l = [cur ++ l] := by
  intro l
  induction l with
  | nil => intro cur _; simp [splitAcc]
  | cons x l ih =>
    intro cur h
    have h0 : x ≠ 32 := by
      have := List.all_eq_true.1 h x (by simp)
      simpa using this
    have h1 : noSp l = true := List.all_eq_true.2 fun y hy => List.all_eq_true.1 h y (by simp [hy])
    rw [splitAcc, if_neg h0, ih _ h1]
    simp
theorem split_three (a b c : ByteArray) (ha : noSp a.data.toList = true) (hb : noSp b.data.toList = true) (hc : noSp c.data.toList = true) :
    (splitL 32 (a ++ ⟨#[32]⟩ ++ b ++ ⟨#[32]⟩ ++ c).data.toList).map strOf = [a, b, c] := by
  have e : a ++ ⟨#[32]⟩ ++ b ++ ⟨#[32]⟩ ++ c = strOf (a.data.toList ++ 32 :: (b.data.toList ++ 32 :: c.data.toList)) := by
    show strOf a.data.toList ++ strOf [32] ++ strOf b.data.toList ++ strOf [32] ++ strOf c.data.toList = _
    simp only [strOf_append, List.append_assoc, List.cons_append, List.nil_append]
  rw [e, data_strOf]
  unfold splitL
  rw [splitAcc_sp _ _ _ ha, splitAcc_sp _ _ _ hb, splitAcc_nil _ _ hc]
  rfl
theorem split_four (a b c d : ByteArray) (ha : noSp a.data.toList = true) (hb : noSp b.data.toList = true) (hc : noSp c.data.toList = true) (hd : noSp d.data.toList = true) :
    (splitL 32 (a ++ ⟨#[32]⟩ ++ b ++ ⟨#[32]⟩ ++ c ++ ⟨#[32]⟩ ++ d).data.toList).map strOf = [a, b, c, d] := by
  have e : a ++ ⟨#[32]⟩ ++ b ++ ⟨#[32]⟩ ++ c ++ ⟨#[32]⟩ ++ d = strOf (a.data.toList ++ 32 :: (b.data.toList ++ 32 :: (c.data.toList ++ 32 :: d.data.toList))) := by
    show strOf a.data.toList ++ strOf [32] ++ strOf b.data.toList ++ strOf [32] ++ strOf c.data.toList ++ strOf [32] ++ strOf d.data.toList = _
    simp only [strOf_append, List.append_assoc, List.cons_append, List.nil_append]
  rw [e, data_strOf]
  unfold splitL
  rw [splitAcc_sp _ _ _ ha, splitAcc_sp _ _ _ hb, splitAcc_sp _ _ _ hc, splitAcc_nil _ _ hd]
  rfl
theorem words_all : ((List.range 48).all fun n => noSp (artN (n / 8 + 1) (n % 8 + 1)).data.toList && (noSp (kwordN (n % 8 + 1) (n / 8 + 1)).data.toList && (countW (artN (n / 8 + 1) (n % 8 + 1)) == n / 8 + 1 && kindW (kwordN (n % 8 + 1) (n / 8 + 1)) == n % 8 + 1))) = true := by decide +kernel
theorem words_at {ci j : Nat} (hc : ci < 6) (hj : j < 8) : noSp (artN (ci + 1) (j + 1)).data.toList = true ∧ noSp (kwordN (j + 1) (ci + 1)).data.toList = true ∧ countW (artN (ci + 1) (j + 1)) = ci + 1 ∧ kindW (kwordN (j + 1) (ci + 1)) = j + 1 := by
  have h := List.all_eq_true.1 words_all (8 * ci + j) (List.mem_range.2 (by omega))
  rw [show (8 * ci + j) / 8 = ci by omega, show (8 * ci + j) % 8 = j by omega] at h
  simp only [Bool.and_eq_true, beq_iff_eq] at h
  exact h
theorem atts_all : ((List.range 6).all fun n => noSp (attN (n / 2 + 1) (n % 2 + 1)).data.toList && attW (n / 2 + 1) (attN (n / 2 + 1) (n % 2 + 1)) == n % 2 + 1) = true := by decide +kernel
theorem att_words {j m : Nat} (hj : j < 3) (hm : m < 2) : noSp (attN (j + 1) (m + 1)).data.toList = true ∧ attW (j + 1) (attN (j + 1) (m + 1)) = m + 1 := by
  have h := List.all_eq_true.1 atts_all (2 * j + m) (List.mem_range.2 (by omega))
  rw [show (2 * j + m) / 2 = j by omega, show (2 * j + m) % 2 = m by omega] at h
  simp only [Bool.and_eq_true, beq_iff_eq] at h
  exact h
theorem tincW_word {i : Nat} (h : i < 9) : tincW (wordN i) = i + 1 := isParse_hit (Nat.le_refl _) (tincW_is _) h rfl
/-- The text of a group is read back. -/
theorem runG_text {c k a : Int} {i : Nat} (hi : i < 9) (h : gOkB c k a ((i : Int) + 1) = true) : runG 0 0 0 ((splitL 32 (gtextN c.toNat k.toNat a.toNat i).data.toList).map strOf) = (c.toNat, k.toNat, a.toNat, i + 1) := by
  obtain ⟨g1, g2, _, g4⟩ := gOk_out h
  obtain ⟨ci, rfl⟩ : ∃ n : Nat, c = (n : Int) + 1 := ⟨(c - 1).toNat, by omega⟩
  obtain ⟨j, rfl⟩ : ∃ n : Nat, k = (n : Int) + 1 := ⟨(k - 1).toNat, by omega⟩
  have e1 : ((ci : Int) + 1).toNat = ci + 1 := by omega
  have e2 : ((j : Int) + 1).toNat = j + 1 := by omega
  obtain ⟨w1, w2, w3, w4⟩ := words_at (ci := ci) (j := j) (by omega) (by omega)
  rcases g4 with ⟨g5, g6, g7⟩ | ⟨g5, rfl⟩
  · obtain ⟨m, rfl⟩ : ∃ n : Nat, a = (n : Int) + 1 := ⟨(a - 1).toNat, by omega⟩
    have e3 : ((m : Int) + 1).toNat = m + 1 := by omega
    obtain ⟨v1, v2⟩ := att_words (j := j) (m := m) (by omega) (by omega)
    rw [e1, e2, e3]
    unfold gtextN bareN
    rw [if_neg (by omega), split_four _ _ _ _ w1 w2 v1 (wordN_noSp hi), runG_count, w3, runG_kind (by omega), w4, runG_att (by omega) (by omega) (by omega), v2, runG_last (by omega) (by omega) (by omega), tincW_word hi]
  · rw [e1, e2]
    unfold gtextN bareN
    rw [show Int.toNat 0 = 0 from rfl, if_pos rfl, split_three _ _ _ w1 w2 (wordN_noSp hi), runG_count, w3, runG_kind (by omega), w4, runG_last (by omega) (by omega) (by omega), tincW_word hi]
end Go.Proofs.YtgeidnnjljpdkaaDoor
namespace Go.Proofs.YtgeidnnjljpdkaaDoor
open Go.RowKit

set_option maxHeartbeats 1000000 in
theorem countOfWord_impl (x : ByteArray) (w : World) (hC : CountsLie w) :
    Calls Tryd.prog 118 #[.string x] w fun e w' => e = .returned (.int .i64 (countW x : Int)) ∧ w = w' := by
  have el : (⟨#[97, 110]⟩ : ByteArray).toList = [97, 110] := by rw [ByteArray.toList_eq]
  by_cases h : x = ⟨#[97, 110]⟩
  · have e1 : (x.toList == [97, 110]) = true := by rw [← el]; exact (Lib.bytes_beq_iff _ _).2 h
    have e2 : countW x = 1 := by unfold countW; rw [if_pos h]
    rw [e2]
    clear h hC el
    go_enter Tryd.func118, Tryd.ntmps118
    go_wp2_with fail
    go_ret
    exact ⟨rfl, rfl⟩
  · have e1 : (x.toList == [97, 110]) = false := by rw [← el]; exact (Lib.bytes_beq_false_iff _ _).2 h
    have hv := countW_idx h
    have hle := countW_le x
    have ci := fun c => Tryd.slices_Index_string 6 0 6 c countL x w (by decide) (by decide) (fun j hj => by rw [Nat.zero_add]; exact hC j hj)
    rw [show countL.take 6 = countL from rfl] at ci
    obtain ⟨z, hz⟩ : ∃ z, Lib.idxOfS countL x = z := ⟨_, rfl⟩
    rw [hz] at ci hv
    have hw : IntKind.i64.wrap (1 + z) = (countW x : Int) := by rw [IntWalk.i64_in _ (by omega)]; exact hv
    have CI := Lib.hid ci
    clear h hC ci hz el
    go_enter Tryd.func118, Tryd.ntmps118
    go_wp2_with fail
    refine (CI.out _).mono ?_
    rintro e w' ⟨rfl, rfl⟩
    go_wp2_with fail
    go_ret
    exact ⟨by first | rfl | (rw [hw]) | (rw [hv]), rfl⟩
set_option maxHeartbeats 1000000 in
theorem kindOfWord_impl (x : ByteArray) (hs : x.size ≤ 1048576) (w : World) (hK : KindsLie w) :
    Calls Tryd.prog 119 #[.string x] w fun e w' => e = .returned (.int .i64 (kindW x : Int)) ∧ Below w.heap.size w w' := by
  have hv := kindW_idx x
  have hle := kindW_le x
  have ct := fun W => Tryd.strings_TrimSuffix x ⟨#[115]⟩ W (by omega)
  have ci := fun W (hb : Below w.heap.size w W) c => Tryd.slices_Index_string 7 0 8 c kindL (stem x) W (by decide) (by decide) (fun j hj => by rw [Nat.zero_add]; exact (hK.below hb) j hj)
  rw [show kindL.take 8 = kindL from rfl] at ci
  obtain ⟨z, hz⟩ : ∃ z, Lib.idxOfS kindL (stem x) = z := ⟨_, rfl⟩
  obtain ⟨y, hy⟩ : ∃ y, stem x = y := ⟨_, rfl⟩
  rw [hz] at ci hv
  rw [hy] at ci
  have ct' : ∀ W, Calls Tryd.prog 144 #[.string x, .string ⟨#[115]⟩] W fun e w' => e = .returned (.string y) ∧ w' = W := fun W => hy ▸ ct W
  have hw : IntKind.i64.wrap (1 + z) = (kindW x : Int) := by rw [IntWalk.i64_in _ (by omega)]; exact hv
  have CT := Lib.hid ct'
  have CI := Lib.hid ci
  clear ct ci hz hy ct' hK
  go_enter Tryd.func119, Tryd.ntmps119
  go_wp2_with fail
  go_quiet (first | (go_at_call 144; refine Calls.quiet_of_same (CT.out _)) | (go_at_call 120; refine Calls.quiet_of_same (CI.out _ (below_drewN' (Below.refl _ _) _) _)))
  go_wp2_with fail
  go_ret
  exact ⟨by first | rfl | (rw [hw]) | (rw [hv]), below_drewN' (Below.refl _ _) _⟩
end Go.Proofs.YtgeidnnjljpdkaaDoor
namespace Go.Proofs.YtgeidnnjljpdkaaDoor
open Go.RowKit
/-- Both boxes, a third one where there is one, and all that was there; the heap ends behind N. -/
def JK (w : World) (A B : List Value) (o : Option (Nat × List Value × TypeId)) (N : Nat) (W : World) : Prop := Box W w.heap.size A ∧ Box W (w.heap.size + 1) B ∧ Below w.heap.size w W ∧ (w.heap.size + 2 ≤ N ∧ N ≤ W.heap.size) ∧ ∀ x, o = some x → x.1 < N ∧ BoxF W x.1 x.2.1 x.2.2
theorem JK.below {w W w1 : World} {A B : List Value} {o : Option (Nat × List Value × TypeId)} {N : Nat} (h : JK w A B o N W) (hb : Below W.heap.size W w1) : JK w A B o N w1 := ⟨h.1.below hb, h.2.1.below hb, h.2.2.1.trans (hb.mono h.2.2.1.size), ⟨h.2.2.2.1.1, Nat.le_trans h.2.2.2.1.2 hb.size⟩, fun x hx => ⟨(h.2.2.2.2 x hx).1, (h.2.2.2.2 x hx).2.below hb⟩⟩
theorem JK.two {w W : World} {A B : List Value} {o : Option (Nat × List Value × TypeId)} {N : Nat} (h : JK w A B o N W) : w.heap.size + 2 ≤ N ∧ N ≤ W.heap.size := h.2.2.2.1
theorem JK.set {w W : World} {A B : List Value} {o : Option (Nat × List Value × TypeId)} {N : Nat} (h : JK w A B o N W) {c : Nat} (hc : N ≤ c) (i : Nat) (v : Value) : JK w A B o N (W.setCell ⟨c, i, none⟩ v) := by
  obtain ⟨x, y, hb, hN, hx⟩ := h
  have far : ∀ d j, d ≠ c → (W.setCell ⟨c, i, none⟩ v).cell? ⟨d, j, none⟩ = W.cell? ⟨d, j, none⟩ := fun d j hd => World.cell?_setCell_other _ _ _ _ (fun e => hd (Addr.mk.inj e).1.symm)
  exact ⟨⟨by simpa using x.1, fun j u hj => (far _ _ (by omega)).trans (x.2 j u hj)⟩, ⟨by simpa using y.1, fun j u hj => (far _ _ (by omega)).trans (y.2 j u hj)⟩, hb.setCell (p := ⟨c, i, none⟩) (show w.heap.size ≤ c by omega) v, ⟨hN.1, by simpa using hN.2⟩, fun x h => ⟨(hx x h).1, (hx x h).2.far i v (by have := (hx x h).1; omega)⟩⟩
theorem JK.start (w : World) (A B : List Value) (t : TypeId) : JK w A B none (w.heap.size + 2) ((w.alloc (.cells A.toArray t (0, 0))).alloc (.cells B.toArray t (0, 0))) := by
  have kb := Box.new (w.alloc (.cells A.toArray t (0, 0))) B t
  rw [World.size_alloc] at kb
  exact ⟨(Box.new w A t).alloc _, kb, ((Below.refl _ _).alloc (Nat.le_refl _) _).alloc (by simp) _, ⟨Nat.le_refl _, by simp⟩, fun _ h => nomatch h⟩
theorem JK.next {w W : World} {A B L : List Value} {N g : Nat} {t : TypeId} (h : JK w A B none N W) (hx : BoxF W g L t) : JK w A B (some (g, L, t)) W.heap.size W := ⟨h.1, h.2.1, h.2.2.1, ⟨Nat.le_trans h.2.2.2.1.1 h.2.2.2.1.2, Nat.le_refl _⟩, fun x e => by cases e; exact ⟨hx.lt, hx⟩⟩
theorem gjs_of {w W : World} {a0 a1 a2 a3 b0 b1 b2 b3 : Value} {o : Option (Nat × List Value × TypeId)} {N : Nat} (h : JK w [a0, a1, a2, a3] [b0, b1, b2, b3] o N W) : (W.cell? ⟨w.heap.size, 0, none⟩ = some a0 ∧ W.cell? ⟨w.heap.size, 1, none⟩ = some a1 ∧ W.cell? ⟨w.heap.size, 2, none⟩ = some a2 ∧ W.cell? ⟨w.heap.size, 3, none⟩ = some a3 ∧ W.cell? ⟨w.heap.size + 1, 0, none⟩ = some b0 ∧ W.cell? ⟨w.heap.size + 1, 1, none⟩ = some b1 ∧ W.cell? ⟨w.heap.size + 1, 2, none⟩ = some b2 ∧ W.cell? ⟨w.heap.size + 1, 3, none⟩ = some b3 ∧ JK w [a0, a1, a2, a3] [b0, b1, b2, b3] o N W) :=
  ⟨h.1.2 0 _ rfl, h.1.2 1 _ rfl, h.1.2 2 _ rfl, h.1.2 3 _ rfl, h.2.1.2 0 _ rfl, h.2.1.2 1 _ rfl, h.2.1.2 2 _ rfl, h.2.1.2 3 _ rfl, h⟩
theorem gjs_jk {w W : World} {a0 a1 a2 a3 b0 b1 b2 b3 : Value} {o : Option (Nat × List Value × TypeId)} {N : Nat} (h : (W.cell? ⟨w.heap.size, 0, none⟩ = some a0 ∧ W.cell? ⟨w.heap.size, 1, none⟩ = some a1 ∧ W.cell? ⟨w.heap.size, 2, none⟩ = some a2 ∧ W.cell? ⟨w.heap.size, 3, none⟩ = some a3 ∧ W.cell? ⟨w.heap.size + 1, 0, none⟩ = some b0 ∧ W.cell? ⟨w.heap.size + 1, 1, none⟩ = some b1 ∧ W.cell? ⟨w.heap.size + 1, 2, none⟩ = some b2 ∧ W.cell? ⟨w.heap.size + 1, 3, none⟩ = some b3 ∧ JK w [a0, a1, a2, a3] [b0, b1, b2, b3] o N W)) : JK w [a0, a1, a2, a3] [b0, b1, b2, b3] o N W := h.2.2.2.2.2.2.2.2
theorem gjs_below {W' : World} {w W : World} {a0 a1 a2 a3 b0 b1 b2 b3 : Value} {o : Option (Nat × List Value × TypeId)} {N : Nat} (h : (W.cell? ⟨w.heap.size, 0, none⟩ = some a0 ∧ W.cell? ⟨w.heap.size, 1, none⟩ = some a1 ∧ W.cell? ⟨w.heap.size, 2, none⟩ = some a2 ∧ W.cell? ⟨w.heap.size, 3, none⟩ = some a3 ∧ W.cell? ⟨w.heap.size + 1, 0, none⟩ = some b0 ∧ W.cell? ⟨w.heap.size + 1, 1, none⟩ = some b1 ∧ W.cell? ⟨w.heap.size + 1, 2, none⟩ = some b2 ∧ W.cell? ⟨w.heap.size + 1, 3, none⟩ = some b3 ∧ JK w [a0, a1, a2, a3] [b0, b1, b2, b3] o N W)) (hb : Below W.heap.size W W') : (W'.cell? ⟨w.heap.size, 0, none⟩ = some a0 ∧ W'.cell? ⟨w.heap.size, 1, none⟩ = some a1 ∧ W'.cell? ⟨w.heap.size, 2, none⟩ = some a2 ∧ W'.cell? ⟨w.heap.size, 3, none⟩ = some a3 ∧ W'.cell? ⟨w.heap.size + 1, 0, none⟩ = some b0 ∧ W'.cell? ⟨w.heap.size + 1, 1, none⟩ = some b1 ∧ W'.cell? ⟨w.heap.size + 1, 2, none⟩ = some b2 ∧ W'.cell? ⟨w.heap.size + 1, 3, none⟩ = some b3 ∧ JK w [a0, a1, a2, a3] [b0, b1, b2, b3] o N W') := gjs_of ((gjs_jk h).below hb)
theorem gjs_alloc {b : Obj} {w W : World} {a0 a1 a2 a3 b0 b1 b2 b3 : Value} {o : Option (Nat × List Value × TypeId)} {N : Nat} (h : (W.cell? ⟨w.heap.size, 0, none⟩ = some a0 ∧ W.cell? ⟨w.heap.size, 1, none⟩ = some a1 ∧ W.cell? ⟨w.heap.size, 2, none⟩ = some a2 ∧ W.cell? ⟨w.heap.size, 3, none⟩ = some a3 ∧ W.cell? ⟨w.heap.size + 1, 0, none⟩ = some b0 ∧ W.cell? ⟨w.heap.size + 1, 1, none⟩ = some b1 ∧ W.cell? ⟨w.heap.size + 1, 2, none⟩ = some b2 ∧ W.cell? ⟨w.heap.size + 1, 3, none⟩ = some b3 ∧ JK w [a0, a1, a2, a3] [b0, b1, b2, b3] o N W)) : ((W.alloc b).cell? ⟨w.heap.size, 0, none⟩ = some a0 ∧ (W.alloc b).cell? ⟨w.heap.size, 1, none⟩ = some a1 ∧ (W.alloc b).cell? ⟨w.heap.size, 2, none⟩ = some a2 ∧ (W.alloc b).cell? ⟨w.heap.size, 3, none⟩ = some a3 ∧ (W.alloc b).cell? ⟨w.heap.size + 1, 0, none⟩ = some b0 ∧ (W.alloc b).cell? ⟨w.heap.size + 1, 1, none⟩ = some b1 ∧ (W.alloc b).cell? ⟨w.heap.size + 1, 2, none⟩ = some b2 ∧ (W.alloc b).cell? ⟨w.heap.size + 1, 3, none⟩ = some b3 ∧ JK w [a0, a1, a2, a3] [b0, b1, b2, b3] o N (W.alloc b)) := gjs_below h ((Below.refl _ W).alloc (Nat.le_refl _) b)
theorem gjs_drew {w W : World} {a0 a1 a2 a3 b0 b1 b2 b3 : Value} {o : Option (Nat × List Value × TypeId)} {N : Nat} (h : (W.cell? ⟨w.heap.size, 0, none⟩ = some a0 ∧ W.cell? ⟨w.heap.size, 1, none⟩ = some a1 ∧ W.cell? ⟨w.heap.size, 2, none⟩ = some a2 ∧ W.cell? ⟨w.heap.size, 3, none⟩ = some a3 ∧ W.cell? ⟨w.heap.size + 1, 0, none⟩ = some b0 ∧ W.cell? ⟨w.heap.size + 1, 1, none⟩ = some b1 ∧ W.cell? ⟨w.heap.size + 1, 2, none⟩ = some b2 ∧ W.cell? ⟨w.heap.size + 1, 3, none⟩ = some b3 ∧ JK w [a0, a1, a2, a3] [b0, b1, b2, b3] o N W)) : (W.drew.cell? ⟨w.heap.size, 0, none⟩ = some a0 ∧ W.drew.cell? ⟨w.heap.size, 1, none⟩ = some a1 ∧ W.drew.cell? ⟨w.heap.size, 2, none⟩ = some a2 ∧ W.drew.cell? ⟨w.heap.size, 3, none⟩ = some a3 ∧ W.drew.cell? ⟨w.heap.size + 1, 0, none⟩ = some b0 ∧ W.drew.cell? ⟨w.heap.size + 1, 1, none⟩ = some b1 ∧ W.drew.cell? ⟨w.heap.size + 1, 2, none⟩ = some b2 ∧ W.drew.cell? ⟨w.heap.size + 1, 3, none⟩ = some b3 ∧ JK w [a0, a1, a2, a3] [b0, b1, b2, b3] o N W.drew) := gjs_below h (Below.refl _ W).drew
theorem gjs_set4 {w W : World} {a0 a1 a2 a3 b0 b1 b2 b3 : Value} {o : Option (Nat × List Value × TypeId)} {N : Nat} {c : Nat} {v0 v1 v2 v3 : Value} (hc : N ≤ c) (h : (W.cell? ⟨w.heap.size, 0, none⟩ = some a0 ∧ W.cell? ⟨w.heap.size, 1, none⟩ = some a1 ∧ W.cell? ⟨w.heap.size, 2, none⟩ = some a2 ∧ W.cell? ⟨w.heap.size, 3, none⟩ = some a3 ∧ W.cell? ⟨w.heap.size + 1, 0, none⟩ = some b0 ∧ W.cell? ⟨w.heap.size + 1, 1, none⟩ = some b1 ∧ W.cell? ⟨w.heap.size + 1, 2, none⟩ = some b2 ∧ W.cell? ⟨w.heap.size + 1, 3, none⟩ = some b3 ∧ JK w [a0, a1, a2, a3] [b0, b1, b2, b3] o N W)) : (((((W.setCell ⟨c, 0, none⟩ v0).setCell ⟨c, 1, none⟩ v1).setCell ⟨c, 2, none⟩ v2).setCell ⟨c, 3, none⟩ v3).cell? ⟨w.heap.size, 0, none⟩ = some a0 ∧ ((((W.setCell ⟨c, 0, none⟩ v0).setCell ⟨c, 1, none⟩ v1).setCell ⟨c, 2, none⟩ v2).setCell ⟨c, 3, none⟩ v3).cell? ⟨w.heap.size, 1, none⟩ = some a1 ∧ ((((W.setCell ⟨c, 0, none⟩ v0).setCell ⟨c, 1, none⟩ v1).setCell ⟨c, 2, none⟩ v2).setCell ⟨c, 3, none⟩ v3).cell? ⟨w.heap.size, 2, none⟩ = some a2 ∧ ((((W.setCell ⟨c, 0, none⟩ v0).setCell ⟨c, 1, none⟩ v1).setCell ⟨c, 2, none⟩ v2).setCell ⟨c, 3, none⟩ v3).cell? ⟨w.heap.size, 3, none⟩ = some a3 ∧ ((((W.setCell ⟨c, 0, none⟩ v0).setCell ⟨c, 1, none⟩ v1).setCell ⟨c, 2, none⟩ v2).setCell ⟨c, 3, none⟩ v3).cell? ⟨w.heap.size + 1, 0, none⟩ = some b0 ∧ ((((W.setCell ⟨c, 0, none⟩ v0).setCell ⟨c, 1, none⟩ v1).setCell ⟨c, 2, none⟩ v2).setCell ⟨c, 3, none⟩ v3).cell? ⟨w.heap.size + 1, 1, none⟩ = some b1 ∧ ((((W.setCell ⟨c, 0, none⟩ v0).setCell ⟨c, 1, none⟩ v1).setCell ⟨c, 2, none⟩ v2).setCell ⟨c, 3, none⟩ v3).cell? ⟨w.heap.size + 1, 2, none⟩ = some b2 ∧ ((((W.setCell ⟨c, 0, none⟩ v0).setCell ⟨c, 1, none⟩ v1).setCell ⟨c, 2, none⟩ v2).setCell ⟨c, 3, none⟩ v3).cell? ⟨w.heap.size + 1, 3, none⟩ = some b3 ∧ JK w [a0, a1, a2, a3] [b0, b1, b2, b3] o N ((((W.setCell ⟨c, 0, none⟩ v0).setCell ⟨c, 1, none⟩ v1).setCell ⟨c, 2, none⟩ v2).setCell ⟨c, 3, none⟩ v3)) :=
  gjs_of (((((gjs_jk h).set hc 0 v0).set hc 1 v1).set hc 2 v2).set hc 3 v3)
theorem BoxF.all4 {W : World} {c : Nat} {x0 x1 x2 x3 v0 v1 v2 v3 : Value} {t : TypeId} (h : BoxF W c [x0, x1, x2, x3] t) : BoxF ((((W.setCell ⟨c, 0, none⟩ v0).setCell ⟨c, 1, none⟩ v1).setCell ⟨c, 2, none⟩ v2).setCell ⟨c, 3, none⟩ v3) c [v0, v1, v2, v3] t := (((h.set 0 v0).set 1 v1).set 2 v2).set 3 v3
end Go.Proofs.YtgeidnnjljpdkaaDoor
namespace Go.Proofs.YtgeidnnjljpdkaaDoor
open Go.RowKit Go.Shelf
attribute [local go_sem] Oper.semAt_some

theorem iter_stops (F : Fence) (n : Nat) (hf : F.fn 143) (hro : F.round = none) (hn : 1 ≤ n) (B1 B2 : Nat) (s : ByteArray) (c : UInt8) (hs : s.size ≤ 1048576) (w : World) (hB1 : B1 < w.heap.size) (hB2 : B2 < w.heap.size)
    (h1 : w.cell? ⟨B1, 0, none⟩ = some (.string s)) (h2 : w.cell? ⟨B2, 0, none⟩ = some (.int .u8 (c.toNat : Int))) :
    SeqStopsK F n Tryd.prog 143 #[.pointer (some ⟨B1, 0, none⟩), .pointer (some ⟨B2, 0, none⟩)] (fun x : BStr => #[encB x]) (KeepTwo B1 B2) (fun ys => ys.map bytesB = splitL c s.data.toList) (Begins s c) (splitL c s.data.toList).length w :=
  fun l J Jx W hW hJ _ hY h0 => iter_in F n hf hro hn l B1 B2 s c hs J Jx (fun pre A B h hg => hJ pre A B none h hg (fun r e => by cases e)) hY W ((hW.cell (p := ⟨B1, 0, none⟩) hB1).trans h1) ((hW.cell (p := ⟨B2, 0, none⟩) hB2).trans h2) h0
theorem keepTwo_t {B1 B2 : Nat} {A B C : World} (h : KeepTwo B1 B2 A B) (k : KeepTwo B1 B2 B C) : KeepTwo B1 B2 A C := ⟨k.1.trans h.1, k.2.trans h.2⟩
theorem keepTwo_b {B1 B2 : Nat} {w : World} (h1 : B1 < w.heap.size) (h2 : B2 < w.heap.size) (W : World) (l : Nat) (o o' : Obj) (hl : w.heap.size ≤ l) (_ : W.heap[l]? = some o) (_ : o.isCells = false) (_ : o.isWalk = false) : KeepTwo B1 B2 W (W.putObj l o') :=
  ⟨World.putObj_heap_other (by omega), World.putObj_heap_other (by omega)⟩
theorem boxF_own {W W' : World} {B b : Nat} {L : List Value} {t : TypeId} {row : Option Nat} (h : BoxF W b L t) (hg : W.grownBy W' row) (hr : ∀ r, row = some r → B ≤ r ∧ ∃ o : Obj, W.heap[r]? = some o ∧ o.isCells = false) : BoxF W' b L t :=
  h.kept hg (fun e => by
    obtain ⟨_, o, ho, hc⟩ := hr b e.symm
    have h2 := h.symm.trans ho
    cases h2
    cases hc)
/-- Between two rounds: the group's box holds what the words so far have given. -/
def GI (w : World) (pre : List BStr) (W : World) : Prop :=
  (∃ c k a : Nat, BoxF W (w.heap.size + 1) [.int .i64 (c : Int), .int .i64 (k : Int), .int .i64 (a : Int), .int .i64 0] 35 ∧ c ≤ 6 ∧ k ≤ 8 ∧ a ≤ 2 ∧ ∀ r, runG 0 0 0 (pre.map (·.1) ++ r) = runG c k a r) ∧
    BoxF W w.heap.size [.int .i64 0, .int .i64 0, .int .i64 0, .int .i64 0] 35 ∧ Below w.heap.size w W ∧ w.heap.size + 4 ≤ W.heap.size
/-- Behind the break. -/
def GX (w : World) (C : Code) (pre : List BStr) (W : World) : Prop :=
  C = .exit 0 ∧ (∃ c k a t : Nat, BoxF W (w.heap.size + 1) [.int .i64 (c : Int), .int .i64 (k : Int), .int .i64 (a : Int), .int .i64 (t : Int)] 35 ∧ ∀ r, runG 0 0 0 (pre.map (·.1) ++ r) = (c, k, a, t)) ∧
    BoxF W w.heap.size [.int .i64 0, .int .i64 0, .int .i64 0, .int .i64 0] 35 ∧ Below w.heap.size w W ∧ w.heap.size + 4 ≤ W.heap.size
theorem gi_own {w : World} {B : Nat} (hB : w.heap.size ≤ B) : OwnFrom B (GI w) := by
  rintro pre W W' row ⟨⟨c, k, a, hb, h1⟩, hz, hw, hs⟩ hg hr
  exact ⟨⟨c, k, a, boxF_own hb hg hr, h1⟩, boxF_own hz hg hr, hw.grown hg hw.size (fun q e => Nat.le_trans hB (hr q e).1), Nat.le_trans hs hg.size⟩
theorem gx_own {w : World} {B : Nat} (hB : w.heap.size ≤ B) (C : Code) : OwnFrom B (GX w C) := by
  rintro pre W W' row ⟨e, ⟨c, k, a, t, hb, h1⟩, hz, hw, hs⟩ hg hr
  exact ⟨e, ⟨c, k, a, t, boxF_own hb hg hr, h1⟩, boxF_own hz hg hr, hw.grown hg hw.size (fun q e => Nat.le_trans hB (hr q e).1), Nat.le_trans hs hg.size⟩
theorem deferred_kept {W : World} {D : Nat} (b : Nat) (v0 v1 v2 v3 : Value) (hK : W.heap[D]? = some (.deferred (some []))) :
    ((((W.setCell ⟨b, 0, none⟩ v0).setCell ⟨b, 1, none⟩ v1).setCell ⟨b, 2, none⟩ v2).setCell ⟨b, 3, none⟩ v3).heap[D]? = some (.deferred (some [])) :=
  (KeepsOthers.setCell _ _ _).same D _ ((KeepsOthers.setCell _ _ _).same D _ ((KeepsOthers.setCell _ _ _).same D _ ((KeepsOthers.setCell _ _ _).same D _ hK rfl) rfl) rfl) rfl
theorem run_snoc (pre : List BStr) (x : BStr) (r : List ByteArray) : (pre ++ [x]).map (·.1) ++ r = pre.map (·.1) ++ (x.1 :: r) := by simp
theorem keep_step {w W W1 : World} (hsz : w.heap.size + 4 ≤ W.heap.size) (h1 : Below W.heap.size W W1) (i : Nat) (v : Value) (D : Nat) :
    KeepsFrom D W (W1.setCell ⟨w.heap.size + 1, i, none⟩ v) ∧ KeepTwo (w.heap.size + 1 + 1) (w.heap.size + 1 + 1 + 1) W (W1.setCell ⟨w.heap.size + 1, i, none⟩ v) := by
  refine ⟨(KeepsOthers.trans (B := W1) ⟨h1.size, fun k o hk _ => (h1.block k (Array.getElem?_eq_some_iff.1 hk).1).trans hk⟩ (KeepsOthers.setCell _ _ _)).from D, ?_, ?_⟩
  · exact (Below.heap_setCell W1 ⟨w.heap.size + 1, i, none⟩ v _ (by show w.heap.size + 1 + 1 ≠ w.heap.size + 1; omega)).trans (h1.block _ (by omega))
  · exact (Below.heap_setCell W1 ⟨w.heap.size + 1, i, none⟩ v _ (by show w.heap.size + 1 + 1 + 1 ≠ w.heap.size + 1; omega)).trans (h1.block _ (by omega))
theorem step_rest {w W W1 : World} {L : List Value} (hbox : BoxF W (w.heap.size + 1) L 35) (hz : BoxF W w.heap.size [.int .i64 0, .int .i64 0, .int .i64 0, .int .i64 0] 35) (hB : Below w.heap.size w W) (hsz : w.heap.size + 4 ≤ W.heap.size) (h1 : Below W.heap.size W W1) (i : Nat) (v : Value) :
    BoxF (W1.setCell ⟨w.heap.size + 1, i, none⟩ v) (w.heap.size + 1) (L.set i v) 35 ∧ BoxF (W1.setCell ⟨w.heap.size + 1, i, none⟩ v) w.heap.size [.int .i64 0, .int .i64 0, .int .i64 0, .int .i64 0] 35 ∧ Below w.heap.size w (W1.setCell ⟨w.heap.size + 1, i, none⟩ v) ∧ w.heap.size + 4 ≤ (W1.setCell ⟨w.heap.size + 1, i, none⟩ v).heap.size :=
  ⟨(hbox.below h1).set i v, (hz.below h1).far i v (by omega), (hB.trans (h1.mono hB.size)).setCell (p := ⟨w.heap.size + 1, i, none⟩) (by show w.heap.size ≤ w.heap.size + 1; omega) v, by have := h1.size; simp; omega⟩
set_option maxRecDepth 100000 in
set_option maxHeartbeats 8000000 in
theorem parse_walk (s : ByteArray) (hs : s.size ≤ 1048576) (w : World) (hT : GTabs w) (c k a t : Nat) (hrun : runG 0 0 0 ((splitL 32 s.data.toList).map strOf) = (c, k, a, t)) (X : ByteArray) (g : Bool)
    (CG : ∀ W, Below w.heap.size w W → Calls Tryd.prog 110 #[.agg #[.int .i64 (c : Int), .int .i64 (k : Int), .int .i64 (a : Int), .int .i64 (t : Int)]] W fun e w' => e = .returned (.tuple #[.string X, .bool g]) ∧ Below W.heap.size W w') (ok : Bool) (hok : (g && decide (X = s)) = ok) :
    Calls Tryd.prog 76 #[.string s] w (if ok = true then AnsF w c k a t true else AnsF w 0 0 0 0 false) := by
  refine (callsIn_wide (n := 6)).1 ?_
  refine callsIn_of_wp_marks Tryd.func76 rfl trivial ?_ rfl
  simp only [Tryd.ntmps76, List.size_toArray, List.length_cons, List.length_nil, Nat.reduceAdd, Nat.reduceSub, Array.replicate_succ, Array.replicate_zero, List.push_toArray, List.append_toArray, List.nil_append, List.cons_append]
  gi_wp2
  refine wpIn_wide.2 (wp_scope_straight ((wpIn_wide (n := 6)).1 ?_))
  gi_wp2
  refine wpIn_label ?_
  gi_wp2
  refine ⟨trivial, ?_⟩
  refine (piecesOf_in Fence.wide (6 - 1) trivial rfl _ _ _).mono ?_
  rintro e w' ⟨rfl, rfl⟩
  gi_wp2
  have r0 := BoxF.new w [.int .i64 0, .int .i64 0, .int .i64 0, .int .i64 0] 35
  have r1 := BoxF.new (w.alloc (.cells #[.int .i64 0, .int .i64 0, .int .i64 0, .int .i64 0] 35 (0, 0))) [.int .i64 0, .int .i64 0, .int .i64 0, .int .i64 0] 35
  have b1 := Boxed.new ((w.alloc (.cells #[.int .i64 0, .int .i64 0, .int .i64 0, .int .i64 0] 35 (0, 0))).alloc (.cells #[.int .i64 0, .int .i64 0, .int .i64 0, .int .i64 0] 35 (0, 0))) 9 (.string s)
  have b2 := Boxed.new (((w.alloc (.cells #[.int .i64 0, .int .i64 0, .int .i64 0, .int .i64 0] 35 (0, 0))).alloc (.cells #[.int .i64 0, .int .i64 0, .int .i64 0, .int .i64 0] 35 (0, 0))).alloc (.cells #[.string s] 9)) 5 (.int .u8 32)
  simp only [World.size_alloc] at r1 b1 b2
  have hB0 : Below w.heap.size w ((((w.alloc (.cells #[.int .i64 0, .int .i64 0, .int .i64 0, .int .i64 0] 35 (0, 0))).alloc (.cells #[.int .i64 0, .int .i64 0, .int .i64 0, .int .i64 0] 35 (0, 0))).alloc (.cells #[.string s] 9)).alloc (.cells #[.int .u8 32] 5)) :=
    ((((Below.refl _ w).alloc (Nat.le_refl _) _).alloc (by simp) _).alloc (by simp; omega) _).alloc (by simp; omega) _
  refine wpIn_rangeFunc_ownG rfl (by decide) (gf := 143) (lb := #[.pointer (some ⟨w.heap.size + 1 + 1, 0, none⟩), .pointer (some ⟨w.heap.size + 1 + 1 + 1, 0, none⟩)]) rfl trivial (enters_of Tryd.func143 (by kernel_rfl) rfl)
    (iter_stops Fence.wide (6 - 1) trivial rfl (by decide) (w.heap.size + 1 + 1) (w.heap.size + 1 + 1 + 1) s 32 hs _ (by simp) (by simp) (b1.alloc _).cell b2.cell) keepTwo_t (keepTwo_b (by simp) (by simp)) (Below.refl _ _) (fun _ => rfl)
    (GI w) (GX w) (gi_own (by simp; omega)) (gx_own (by simp; omega))
    ⟨⟨0, 0, 0, (r1.alloc _).alloc _, by omega, by omega, by omega, fun r => rfl⟩, ((r0.alloc _).alloc _).alloc _, hB0, by simp⟩
    (fun x => { tmps := #[.string s, undef, .pointer (some ⟨w.heap.size, 0, none⟩), .bool false, .pointer (some ⟨w.heap.size + 1, 0, none⟩), encB x, undef, undef, .string s, .func (.func 143) #[] #[.pointer (some ⟨w.heap.size + 1 + 1, 0, none⟩), .pointer (some ⟨w.heap.size + 1 + 1 + 1, 0, none⟩)], encB x, undef, undef, undef, undef, undef, undef, undef, undef, undef, undef, undef, undef, undef, undef, undef, undef, undef, undef, undef, undef, undef, undef, undef, undef, undef, undef, undef, undef, undef, undef, undef, undef, undef, undef, undef, undef, undef, undef, undef, undef, undef, undef, undef, undef, undef, undef, undef, undef, undef, undef, undef, undef, undef, undef, undef, undef], defers := [] }) ?assign ?body ?done ?stop
  case assign =>
    intro l x W K hK
    gi_wp2
    exact hK
  case body =>
    rintro l pre x W ⟨⟨c1, k1, a1, hbox, hc, hk, ha, hr⟩, hz, hB, hsz⟩ hlt
    have hT1 := hT.below hB
    obtain ⟨x0, x1, x2, x3, xf⟩ := hbox.four
    have hb1 : w.heap.size + 1 < W.heap.size := hbox.lt
    by_cases hc0 : c1 = 0
    · have e1 : ((c1 : Int) == 0) = true := by rw [beq_iff_eq]; omega
      gi_wp2_with (refine ⟨trivial, ?_⟩; gi_at_call 118; refine (CallsIn.inRound l (callsIn_wide.2 (countOfWord_impl x.1 _ hT1.2.1))).mono ?_; rintro e w' ⟨rfl, rfl⟩)
      subst hc0
      exact ⟨(keep_step hsz (Below.refl _ _) 0 _ _).1, (keep_step hsz (Below.refl _ _) 0 _ 0).2, ⟨countW x.1, k1, a1, (step_rest hbox hz hB hsz (Below.refl _ _) 0 _).1, countW_le _, hk, ha, fun r => by rw [run_snoc, hr, runG_count]⟩, (step_rest hbox hz hB hsz (Below.refl _ _) 0 _).2⟩
    · have e1 : ((c1 : Int) == 0) = false := by rw [beq_eq_false_iff_ne]; omega
      by_cases hk0 : k1 = 0
      · have e2 : ((k1 : Int) == 0) = true := by rw [beq_iff_eq]; omega
        gi_wp2_with (refine ⟨trivial, ?_⟩; gi_at_call 119; refine (CallsIn.inRound l (callsIn_wide.2 (kindOfWord_impl x.1 x.2 _ hT1.2.2.1))).mono ?_; rintro e W1 ⟨rfl, hb⟩; obtain ⟨y0, y1, y2, y3, yf⟩ := (hbox.below hb).four)
        subst hk0
        exact ⟨(keep_step hsz hb 1 _ _).1, (keep_step hsz hb 1 _ 0).2, ⟨c1, kindW x.1, a1, (step_rest hbox hz hB hsz hb 1 _).1, hc, kindW_le _, ha, fun r => by rw [run_snoc, hr, runG_kind hc0]⟩, (step_rest hbox hz hB hsz hb 1 _).2⟩
      · have e2 : ((k1 : Int) == 0) = false := by rw [beq_eq_false_iff_ne]; omega
        obtain ⟨j, rfl⟩ : ∃ j, k1 = j + 1 := ⟨k1 - 1, by omega⟩
        have ej : ((j + 1 : Nat) : Int) = (j : Int) + 1 := by omega
        rw [ej] at x1 e2
        have wj : IntKind.i64.wrap (j : Int) = (j : Int) := IntWalk.i64_in _ (by omega)
        have j0 : (0 : Int) ≤ (j : Int) := by omega
        have j8 : (j : Int) < 8 := by omega
        by_cases ha0 : a1 = 0
        · have e3 : ((a1 : Int) == 0) = true := by rw [beq_iff_eq]; omega
          obtain ⟨y, hy, hrd⟩ := hT1.2.2.2 j (by omega)
          by_cases hj : j < 3
          · rw [attsL_two hj] at hy hrd
            obtain ⟨b, o, rfl, _, hcells⟩ := hrd.2 (by omega)
            have hl2 := attsL_two hj
            have ci := fun W => Tryd.slices_Index_string b o 2 2 (attsL ((j : Int) + 1)) x.1 W (by omega) (by omega)
            rw [show (attsL ((j : Int) + 1)).take 2 = attsL ((j : Int) + 1) from List.take_of_length_le (by omega)] at ci
            have hv := attW_idx (j + 1) x.1
            have hle := attW_le (j + 1) x.1
            rw [ej] at hv
            obtain ⟨z, hzz⟩ : ∃ z, Lib.idxOfS (attsL ((j : Int) + 1)) x.1 = z := ⟨_, rfl⟩
            rw [hzz] at ci hv
            have CI := Lib.hid (ci W (fun q hq => hcells q (by omega)))
            have hw : IntKind.i64.wrap (1 + z) = (attW (j + 1) x.1 : Int) := by rw [IntWalk.i64_in _ (by omega)]; exact hv
            clear ci hcells hrd
            gi_wp2_with (refine ⟨trivial, ?_⟩; gi_at_call 120; refine (CallsIn.inRound l (callsIn_wide.2 CI.out)).mono ?_; rintro e w' ⟨rfl, rfl⟩)
            have ha1 : a1 = 0 := ha0
            subst ha1
            exact ⟨(keep_step hsz (Below.refl _ _) 2 _ _).1, (keep_step hsz (Below.refl _ _) 2 _ 0).2, ⟨c1, j + 1, attW (j + 1) x.1, (step_rest hbox hz hB hsz (Below.refl _ _) 2 _).1, hc, hk, attW_le _ _, fun r => by rw [run_snoc, hr, runG_att hc0 (by omega) (by omega)]⟩, (step_rest hbox hz hB hsz (Below.refl _ _) 2 _).2⟩
          · rw [attsL_nil (by omega)] at hy
            gi_wp2_with (refine ⟨trivial, ?_⟩; gi_at_call 61; refine (CallsIn.inRound l (callsIn_wide.2 (parse_impl x.1 (tincW x.1) x.2 (tincW_is _) _ hT1.1))).mono ?_; rintro e W1 ⟨rfl, hb⟩; obtain ⟨y0, y1, y2, y3, yf⟩ := (hbox.below hb).four)
            exact ⟨(keep_step hsz hb 3 _ _).1, rfl, ⟨c1, j + 1, a1, tincW x.1, (step_rest hbox hz hB hsz hb 3 _).1, fun r => by rw [run_snoc, hr, runG_last hc0 (by omega) (by omega)]⟩, (step_rest hbox hz hB hsz hb 3 _).2⟩
        · have e3 : ((a1 : Int) == 0) = false := by rw [beq_eq_false_iff_ne]; omega
          gi_wp2_with (refine ⟨trivial, ?_⟩; gi_at_call 61; refine (CallsIn.inRound l (callsIn_wide.2 (parse_impl x.1 (tincW x.1) x.2 (tincW_is _) _ hT1.1))).mono ?_; rintro e W1 ⟨rfl, hb⟩; obtain ⟨y0, y1, y2, y3, yf⟩ := (hbox.below hb).four)
          exact ⟨(keep_step hsz hb 3 _ _).1, rfl, ⟨c1, j + 1, a1, tincW x.1, (step_rest hbox hz hB hsz hb 3 _).1, fun r => by rw [run_snoc, hr, runG_last hc0 (by omega) (by omega)]⟩, (step_rest hbox hz hB hsz hb 3 _).2⟩
  case done =>
    rintro D ys W hD hS ⟨⟨c1, k1, a1, hbox, hc, hk, ha, hr⟩, hz, hB, hsz⟩ hK
    have hy : ys.map (·.1) = (splitL 32 s.data.toList).map strOf := by rw [← hS, List.map_map]; rfl
    have he := hr []
    rw [List.append_nil, hy, hrun] at he
    injection he with he1 he
    injection he with he2 he
    injection he with he3 he4
    subst he1; subst he2; subst he3; subst he4
    clear hr hy hS hc hk ha hrun
    have hD4 : w.heap.size + 4 ≤ D := by simp at hD; omega
    have hlt : D < W.heap.size := (Array.getElem?_eq_some_iff.1 hK).1
    obtain ⟨x0, x1, x2, x3, xf⟩ := hbox.four
    clear r0 r1 b1 b2 hB0 hT
    cases g
    · obtain rfl : false = ok := hok
      gi_wp2_with (refine ⟨trivial, ?_⟩; gi_at_call 110; refine (callsIn_wide.2 (CG _ hB)).mono ?_; rintro e W2 ⟨rfl, h2⟩; obtain ⟨y0, y1, y2, y3, yf⟩ := (hbox.below h2).four; obtain ⟨z0, z1, z2, z3, zf⟩ := (hz.below h2).four)
      have hK3 := deferred_kept (w.heap.size) (.int .i64 0) (.int .i64 0) (.int .i64 0) (.int .i64 0) ((h2.block D hlt).trans hK)
      have BP := (BoxF.all4 (v0 := .int .i64 0) (v1 := .int .i64 0) (v2 := .int .i64 0) (v3 := .int .i64 0) (hz.below h2)).kept (grownBy_putObj' _ D (.deferred none)) (by simp; omega)
      obtain ⟨q0, q1, q2, q3, _⟩ := BP.four
      have hb2 := hB.trans (h2.mono hB.size)
      have hb3 := hb2.grown (grown4 W2 w.heap.size (.int .i64 0) (.int .i64 0) (.int .i64 0) (.int .i64 0)) hb2.size (fun q e => by cases e; exact Nat.le_refl _)
      have hb5 := hb3.grown (grownBy_putObj' _ D (.deferred none)) hb3.size (fun q e => by cases e; omega)
      show bodyPostM Fence.wide 6 Tryd.prog _ _ Exit.ret _ _
      refine ⟨by simp, .inl ⟨_, _, rfl, run_takeDeferred hK3, ?_⟩⟩
      rw [if_neg (by simp)]
      exact ⟨.tuple #[.agg #[.int .i64 0, .int .i64 0, .int .i64 0, .int .i64 0], .bool false], by simp [results, Tryd.results76, go_sem, q0, q1, q2, q3], rfl, hb5⟩
    · by_cases hX : X = s
      · obtain rfl : true = ok := by rw [← hok]; simp [hX]
        have e5 : (X.toList == s.toList) = true := (Lib.bytes_beq_iff _ _).2 hX
        have e6 : (X.toList != s.toList) = false := by rw [bne, e5]; rfl
        gi_wp2_with (refine ⟨trivial, ?_⟩; gi_at_call 110; refine (callsIn_wide.2 (CG _ hB)).mono ?_; rintro e W2 ⟨rfl, h2⟩; obtain ⟨y0, y1, y2, y3, yf⟩ := (hbox.below h2).four; obtain ⟨z0, z1, z2, z3, zf⟩ := (hz.below h2).four)
        have hK3 := deferred_kept (w.heap.size) (.int .i64 (c : Int)) (.int .i64 (k : Int)) (.int .i64 (a : Int)) (.int .i64 0) ((h2.block D hlt).trans hK)
        have BP := (BoxF.all4 (v0 := .int .i64 (c : Int)) (v1 := .int .i64 (k : Int)) (v2 := .int .i64 (a : Int)) (v3 := .int .i64 0) (hz.below h2)).kept (grownBy_putObj' _ D (.deferred none)) (by simp; omega)
        obtain ⟨q0, q1, q2, q3, _⟩ := BP.four
        have hb2 := hB.trans (h2.mono hB.size)
        have hb3 := hb2.grown (grown4 W2 w.heap.size (.int .i64 (c : Int)) (.int .i64 (k : Int)) (.int .i64 (a : Int)) (.int .i64 0)) hb2.size (fun q e => by cases e; exact Nat.le_refl _)
        have hb5 := hb3.grown (grownBy_putObj' _ D (.deferred none)) hb3.size (fun q e => by cases e; omega)
        show bodyPostM Fence.wide 6 Tryd.prog _ _ Exit.ret _ _
        refine ⟨by simp, .inl ⟨_, _, rfl, run_takeDeferred hK3, ?_⟩⟩
        rw [if_pos rfl]
        exact ⟨.tuple #[.agg #[.int .i64 (c : Int), .int .i64 (k : Int), .int .i64 (a : Int), .int .i64 0], .bool true], by simp [results, Tryd.results76, go_sem, q0, q1, q2, q3], rfl, hb5⟩
      · obtain rfl : false = ok := by rw [← hok]; simp [hX]
        have e5 : (X.toList == s.toList) = false := (Lib.bytes_beq_false_iff _ _).2 hX
        have e6 : (X.toList != s.toList) = true := by rw [bne, e5]; rfl
        gi_wp2_with (refine ⟨trivial, ?_⟩; gi_at_call 110; refine (callsIn_wide.2 (CG _ hB)).mono ?_; rintro e W2 ⟨rfl, h2⟩; obtain ⟨y0, y1, y2, y3, yf⟩ := (hbox.below h2).four; obtain ⟨z0, z1, z2, z3, zf⟩ := (hz.below h2).four)
        have hK3 := deferred_kept (w.heap.size) (.int .i64 0) (.int .i64 0) (.int .i64 0) (.int .i64 0) ((h2.block D hlt).trans hK)
        have BP := (BoxF.all4 (v0 := .int .i64 0) (v1 := .int .i64 0) (v2 := .int .i64 0) (v3 := .int .i64 0) (hz.below h2)).kept (grownBy_putObj' _ D (.deferred none)) (by simp; omega)
        obtain ⟨q0, q1, q2, q3, _⟩ := BP.four
        have hb2 := hB.trans (h2.mono hB.size)
        have hb3 := hb2.grown (grown4 W2 w.heap.size (.int .i64 0) (.int .i64 0) (.int .i64 0) (.int .i64 0)) hb2.size (fun q e => by cases e; exact Nat.le_refl _)
        have hb5 := hb3.grown (grownBy_putObj' _ D (.deferred none)) hb3.size (fun q e => by cases e; omega)
        show bodyPostM Fence.wide 6 Tryd.prog _ _ Exit.ret _ _
        refine ⟨by simp, .inl ⟨_, _, rfl, run_takeDeferred hK3, ?_⟩⟩
        rw [if_neg (by simp)]
        exact ⟨.tuple #[.agg #[.int .i64 0, .int .i64 0, .int .i64 0, .int .i64 0], .bool false], by simp [results, Tryd.results76, go_sem, q0, q1, q2, q3], rfl, hb5⟩
  case stop =>
    rintro D C' pre W hD ⟨r, hS⟩ ⟨rfl, ⟨c1, k1, a1, t1, hbox, hr⟩, hz, hB, hsz⟩ hK
    have hy : (splitL 32 s.data.toList).map strOf = pre.map (·.1) ++ r.map strOf := by rw [← hS, List.map_append, List.map_map]; rfl
    have he := hr (r.map strOf)
    rw [← hy, hrun] at he
    injection he with he1 he
    injection he with he2 he
    injection he with he3 he4
    subst he1; subst he2; subst he3; subst he4
    clear hr hy hS hrun
    have hD4 : w.heap.size + 4 ≤ D := by simp at hD; omega
    have hlt : D < W.heap.size := (Array.getElem?_eq_some_iff.1 hK).1
    obtain ⟨x0, x1, x2, x3, xf⟩ := hbox.four
    clear r0 r1 b1 b2 hB0 hT
    cases g
    · obtain rfl : false = ok := hok
      gi_wp2_with (refine ⟨trivial, ?_⟩; gi_at_call 110; refine (callsIn_wide.2 (CG _ hB)).mono ?_; rintro e W2 ⟨rfl, h2⟩; obtain ⟨y0, y1, y2, y3, yf⟩ := (hbox.below h2).four; obtain ⟨z0, z1, z2, z3, zf⟩ := (hz.below h2).four)
      have hK3 := deferred_kept (w.heap.size) (.int .i64 0) (.int .i64 0) (.int .i64 0) (.int .i64 0) ((h2.block D hlt).trans hK)
      have BP := (BoxF.all4 (v0 := .int .i64 0) (v1 := .int .i64 0) (v2 := .int .i64 0) (v3 := .int .i64 0) (hz.below h2)).kept (grownBy_putObj' _ D (.deferred none)) (by simp; omega)
      obtain ⟨q0, q1, q2, q3, _⟩ := BP.four
      have hb2 := hB.trans (h2.mono hB.size)
      have hb3 := hb2.grown (grown4 W2 w.heap.size (.int .i64 0) (.int .i64 0) (.int .i64 0) (.int .i64 0)) hb2.size (fun q e => by cases e; exact Nat.le_refl _)
      have hb5 := hb3.grown (grownBy_putObj' _ D (.deferred none)) hb3.size (fun q e => by cases e; omega)
      show bodyPostM Fence.wide 6 Tryd.prog _ _ Exit.ret _ _
      refine ⟨by simp, .inl ⟨_, _, rfl, run_takeDeferred hK3, ?_⟩⟩
      rw [if_neg (by simp)]
      exact ⟨.tuple #[.agg #[.int .i64 0, .int .i64 0, .int .i64 0, .int .i64 0], .bool false], by simp [results, Tryd.results76, go_sem, q0, q1, q2, q3], rfl, hb5⟩
    · by_cases hX : X = s
      · obtain rfl : true = ok := by rw [← hok]; simp [hX]
        have e5 : (X.toList == s.toList) = true := (Lib.bytes_beq_iff _ _).2 hX
        have e6 : (X.toList != s.toList) = false := by rw [bne, e5]; rfl
        gi_wp2_with (refine ⟨trivial, ?_⟩; gi_at_call 110; refine (callsIn_wide.2 (CG _ hB)).mono ?_; rintro e W2 ⟨rfl, h2⟩; obtain ⟨y0, y1, y2, y3, yf⟩ := (hbox.below h2).four; obtain ⟨z0, z1, z2, z3, zf⟩ := (hz.below h2).four)
        have hK3 := deferred_kept (w.heap.size) (.int .i64 (c : Int)) (.int .i64 (k : Int)) (.int .i64 (a : Int)) (.int .i64 (t : Int)) ((h2.block D hlt).trans hK)
        have BP := (BoxF.all4 (v0 := .int .i64 (c : Int)) (v1 := .int .i64 (k : Int)) (v2 := .int .i64 (a : Int)) (v3 := .int .i64 (t : Int)) (hz.below h2)).kept (grownBy_putObj' _ D (.deferred none)) (by simp; omega)
        obtain ⟨q0, q1, q2, q3, _⟩ := BP.four
        have hb2 := hB.trans (h2.mono hB.size)
        have hb3 := hb2.grown (grown4 W2 w.heap.size (.int .i64 (c : Int)) (.int .i64 (k : Int)) (.int .i64 (a : Int)) (.int .i64 (t : Int))) hb2.size (fun q e => by cases e; exact Nat.le_refl _)
        have hb5 := hb3.grown (grownBy_putObj' _ D (.deferred none)) hb3.size (fun q e => by cases e; omega)
        show bodyPostM Fence.wide 6 Tryd.prog _ _ Exit.ret _ _
        refine ⟨by simp, .inl ⟨_, _, rfl, run_takeDeferred hK3, ?_⟩⟩
        rw [if_pos rfl]
        exact ⟨.tuple #[.agg #[.int .i64 (c : Int), .int .i64 (k : Int), .int .i64 (a : Int), .int .i64 (t : Int)], .bool true], by simp [results, Tryd.results76, go_sem, q0, q1, q2, q3], rfl, hb5⟩
      · obtain rfl : false = ok := by rw [← hok]; simp [hX]
        have e5 : (X.toList == s.toList) = false := (Lib.bytes_beq_false_iff _ _).2 hX
        have e6 : (X.toList != s.toList) = true := by rw [bne, e5]; rfl
        gi_wp2_with (refine ⟨trivial, ?_⟩; gi_at_call 110; refine (callsIn_wide.2 (CG _ hB)).mono ?_; rintro e W2 ⟨rfl, h2⟩; obtain ⟨y0, y1, y2, y3, yf⟩ := (hbox.below h2).four; obtain ⟨z0, z1, z2, z3, zf⟩ := (hz.below h2).four)
        have hK3 := deferred_kept (w.heap.size) (.int .i64 0) (.int .i64 0) (.int .i64 0) (.int .i64 0) ((h2.block D hlt).trans hK)
        have BP := (BoxF.all4 (v0 := .int .i64 0) (v1 := .int .i64 0) (v2 := .int .i64 0) (v3 := .int .i64 0) (hz.below h2)).kept (grownBy_putObj' _ D (.deferred none)) (by simp; omega)
        obtain ⟨q0, q1, q2, q3, _⟩ := BP.four
        have hb2 := hB.trans (h2.mono hB.size)
        have hb3 := hb2.grown (grown4 W2 w.heap.size (.int .i64 0) (.int .i64 0) (.int .i64 0) (.int .i64 0)) hb2.size (fun q e => by cases e; exact Nat.le_refl _)
        have hb5 := hb3.grown (grownBy_putObj' _ D (.deferred none)) hb3.size (fun q e => by cases e; omega)
        show bodyPostM Fence.wide 6 Tryd.prog _ _ Exit.ret _ _
        refine ⟨by simp, .inl ⟨_, _, rfl, run_takeDeferred hK3, ?_⟩⟩
        rw [if_neg (by simp)]
        exact ⟨.tuple #[.agg #[.int .i64 0, .int .i64 0, .int .i64 0, .int .i64 0], .bool false], by simp [results, Tryd.results76, go_sem, q0, q1, q2, q3], rfl, hb5⟩
/-- Whatever the string: the program's answer is the group whose text it is, or none. -/
theorem parseGroup_impl (s : ByteArray) (hs : s.size ≤ 1048576) : ∃ (C K A T : Int) (ok : Bool), GAns s C K A T ok ∧ ∀ w, GTabs w → Calls Tryd.prog 76 #[.string s] w (AnsF w C K A T ok) := by
  obtain ⟨c, k, a, t, hrun⟩ : ∃ c k a t, runG 0 0 0 ((splitL 32 s.data.toList).map strOf) = (c, k, a, t) := ⟨_, _, _, _, rfl⟩
  have hno : ∀ C K A T : Int, gOkB C K A T = true → gtextN C.toNat K.toNat A.toNat (T - 1).toNat = s → (C = c ∧ K = k ∧ A = a ∧ T = t) := by
    intro C K A T h1 h2
    obtain ⟨g1, g2, g3, g4⟩ := gOk_out h1
    obtain ⟨i, rfl⟩ : ∃ i : Nat, T = (i : Int) + 1 := ⟨(T - 1).toNat, by omega⟩
    have ei : ((i : Int) + 1 - 1).toNat = i := by omega
    rw [ei] at h2
    have h3 := runG_text (i := i) (by omega) h1
    rw [h2, hrun] at h3
    injection h3 with e1 h3
    injection h3 with e2 h3
    injection h3 with e3 e4
    exact ⟨by omega, by omega, by omega, by omega⟩
  rcases Bool.eq_false_or_eq_true (gOkB (c : Int) (k : Int) (a : Int) (t : Int)) with h | h
  · obtain ⟨g1, g2, g3, g4⟩ := gOk_out h
    obtain ⟨i, rfl⟩ : ∃ i, t = i + 1 := ⟨t - 1, by omega⟩
    have ei : ((i + 1 : Nat) : Int) = (i : Int) + 1 := by omega
    have ej : (((i + 1 : Nat) : Int) - 1).toNat = i := by omega
    by_cases hX : gtextN c k a i = s
    · refine ⟨c, k, a, ((i + 1 : Nat) : Int), true, .inl ⟨rfl, h, ?_⟩, fun w hT => ?_⟩
      · rw [ej, Int.toNat_natCast, Int.toNat_natCast, Int.toNat_natCast]; exact hX
      · refine parse_walk s hs w hT c k a (i + 1) hrun (gtextN c k a i) true (fun W hb => ?_) true (by simp [hX])
        have hg := groupText_impl (c : Int) (k : Int) (a : Int) i W (by omega) (by rw [← ei]; exact h) (hT.below hb)
        rw [ei]
        simpa only [Int.toNat_natCast] using hg
    · refine ⟨0, 0, 0, 0, false, .inr ⟨rfl, ⟨rfl, rfl, rfl, rfl⟩, fun C K A T h1 h2 => ?_⟩, fun w hT => ?_⟩
      · obtain ⟨rfl, rfl, rfl, rfl⟩ := hno C K A T h1 h2
        rw [ej, Int.toNat_natCast, Int.toNat_natCast, Int.toNat_natCast] at h2
        exact hX h2
      · refine parse_walk s hs w hT c k a (i + 1) hrun (gtextN c k a i) true (fun W hb => ?_) false (by simp [hX])
        have hg := groupText_impl (c : Int) (k : Int) (a : Int) i W (by omega) (by rw [← ei]; exact h) (hT.below hb)
        rw [ei]
        simpa only [Int.toNat_natCast] using hg
  · refine ⟨0, 0, 0, 0, false, .inr ⟨rfl, ⟨rfl, rfl, rfl, rfl⟩, fun C K A T h1 h2 => ?_⟩, fun w hT => ?_⟩
    · obtain ⟨rfl, rfl, rfl, rfl⟩ := hno C K A T h1 h2
      rw [h1] at h
      cases h
    · exact parse_walk s hs w hT c k a t hrun ⟨#[]⟩ false (fun W hb => groupText_impl_no _ _ _ _ W h (hT.2.2.2.below hb)) false rfl
end Go.Proofs.YtgeidnnjljpdkaaDoor
