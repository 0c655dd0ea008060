/- Several small texts in one: Split, SplitEq, AWords, RLayers, RWrap, AWrap, AWrap2. -/
import Derived.Test.YtgeidnnjljpdkaaGreatDoorKP
import Derived.OwnWalk
import Derived.Laws.OwnMore
import Derived.Deep.AppendLies
import Derived.Maps.AppendAt
import Derived.Lib.SplitLaws
import Derived.Test.YtgeidnnjljpdkaaGreatDoorKS
import Derived.Test.YtgeidnnjljpdkaaGreatDoorK5
import Derived.Test.YtgeidnnjljpdkaaGreatDoorKM
import Derived.Test.YtgeidnnjljpdkaaGreatDoorShape
import Derived.Deep.LoopGhost
import Derived.Test.YtgeidnnjljpdkaaGreatDoorKC
namespace Go.Proofs.YtgeidnnjljpdkaaGreatDoor
open Go.RowKit

def encS (l : List UInt8) : Value := .string (strOf l)
theorem infoS : (Tryz.prog.info? 9).map (fun i => (i.zero, i.size, i.bytes)) = some (some (.string ByteArray.empty), 1, 16) := by kernel_rfl

/-- The result is a slice of the call's own that holds these texts, at least one; nothing that was there has changed. -/
def OwnStrs (w : World) (xs : List (List UInt8)) (v : Value) (w' : World) : Prop :=
  ∃ g cap, v = .slice (some ⟨g, 0, none⟩) xs.length cap ∧ w'.ownsRow w.heap.size 9 1 (.slice (some ⟨g, 0, none⟩) xs.length cap) xs.length (xs.map encS) ∧ Below w.heap.size w w'

theorem ownStrs_of {w w' : World} {v : Value} {n : Nat} {xs : List (List UInt8)} (h : w'.ownsRow w.heap.size 9 1 v n (xs.map encS)) (hn : n = xs.length) (h1 : 1 ≤ n) (hb : Below w.heap.size w w') : OwnStrs w xs v w' := by
  subst hn
  obtain ⟨g, cap, rfl, _, _⟩ := h.form h1
  exact ⟨g, cap, rfl, h, hb⟩

set_option maxHeartbeats 1000000 in
theorem l1Split_any (s : ByteArray) (c : UInt8) (w : World) (hs : s.size ≤ 1048576) :
    Calls Tryz.prog 70 #[.string s, .int .u8 (c.toNat : Int)] w fun e w' => ∃ v, e = .returned v ∧ OwnStrs w (splitL c s.data.toList) v w' := by
  obtain ⟨i0, hi, hz0, hz1, hz2⟩ := info_parts infoS
  go_enter Tryz.func70, Tryz.ntmps70
  go_wp2
  go_loopw [5, 6, 7] (fun v f i wr => ∃ (k a : Nat) (ps : List (List UInt8)), k ≤ s.size ∧ a ≤ k ∧ ps.length ≤ k ∧ i = .int .i64 k ∧ f = .int .i64 a ∧
      wr.ownsRow w.heap.size 9 1 v ps.length (ps.map encS) ∧ Below w.heap.size w wr ∧ Hid (SplitAt s c ps a k)) (fun _ _ i _ => s.size - (intOf i).toNat)
  case atStart =>
    exact ⟨0, 0, [], by omega, by omega, by simp, rfl, rfl, World.ownsRow_lit w #[] 0 (Nat.le_refl _) (by unfold maxLen; omega) rfl, (Below.refl _ _).alloc (Nat.le_refl _) _, splitAt_start s c⟩
  case round =>
    obtain ⟨k, a, ps, hk, ha, hps, rfl, rfl, hown, hbel, HS⟩ := hrel
    have hsz := hbel.size
    by_cases hlt : k < s.size
    · by_cases hc : s[k] = c
      · have e1 := byte_eq hc
        have HS1 : Hid (SplitAt s c (ps ++ [piece s a k]) (k + 1) (k + 1)) := splitAt_hit HS.out hlt hc
        have hx := extract_piece s a k
        clear hc HS
        go_wp2_with (at_builtin; refine wpList_append_own _ rfl _ _ 38 rfl w.heap.size 9 i0 (.string ByteArray.empty) 1 16 Tryz.underlying38 hi hz0 hz1 hz2 rfl (by decide) _ _ _ rfl (hown.alloc _) ⟨wr.heap.size, 0, none⟩ 1 1 [encS (piece s a k)] rfl rfl (cell_one_new _ _ _) (fun x hx => by simp at hx; subst hx; rfl) (by unfold maxLen; omega) (by omega) (by simp; omega) ?_; intro v' w1 hown' hgrow hnil)
        go_roundw
        case rel => exact ⟨k + 1, k + 1, ps ++ [piece s a k], by omega, by omega, by simp; omega, by go_num, by go_num, by simpa using hown', (hbel.alloc hbel.size _).grown hgrow (by simp; omega) (fun q hq => (hown.lt q hq).1), HS1⟩
        case measure => simp [intOf]; omega
      · have e1 := byte_ne hc
        have HS1 : Hid (SplitAt s c ps a (k + 1)) := splitAt_miss HS.out hlt ha hc
        clear hc HS
        go_wp2
        go_roundw
        case rel => exact ⟨k + 1, a, ps, by omega, by omega, by omega, by go_num, rfl, hown, hbel, HS1⟩
        case measure => simp [intOf]; omega
    · obtain rfl : k = s.size := by omega
      have hl : (splitL c s.data.toList).length = ps.length + 1 := by rw [← splitAt_end HS.out rfl]; simp
      have hx := extract_piece s a s.size
      go_wp2_with (at_builtin; refine wpList_append_own _ rfl _ _ 38 rfl w.heap.size 9 i0 (.string ByteArray.empty) 1 16 Tryz.underlying38 hi hz0 hz1 hz2 rfl (by decide) _ _ _ rfl (hown.alloc _) ⟨wr.heap.size, 0, none⟩ 1 1 [encS (piece s a s.size)] rfl rfl (cell_one_new _ _ _) (fun x hx => by simp at hx; subst hx; rfl) (by unfold maxLen; omega) (by omega) (by simp; omega) ?_; intro v' w1 hown' hgrow hnil)
      go_ret
      have hb1 : Below w.heap.size w w1 := (hbel.alloc hbel.size _).grown hgrow (by simp; omega) (fun q hq => (hown.lt q hq).1)
      exact ⟨v', rfl, ownStrs_of (n := ps.length + 1) (by rw [← splitAt_end HS.out rfl]; simpa using hown') (by omega) (by omega) hb1⟩
end Go.Proofs.YtgeidnnjljpdkaaGreatDoor
namespace Go.Proofs.YtgeidnnjljpdkaaGreatDoor
open Go.Lib

theorem splitAcc_prep (c : UInt8) : ∀ (l cur h : List UInt8) (t : List (List UInt8)), splitAcc c [] l = h :: t → splitAcc c cur l = (cur ++ h) :: t := by
  intro l
  induction l with
  | nil => intro cur h t e; simp [splitAcc] at e; obtain ⟨rfl, rfl⟩ := e; simp [splitAcc]
  | cons x r ih =>
    intro cur h t e
    rw [splitAcc] at e ⊢
    split
    · rename_i hx
      rw [if_pos hx] at e
      cases e
      simp
    · rename_i hx
      rw [if_neg hx] at e
      cases hr : splitAcc c [] r with
      | nil => exact absurd hr (splitAcc_ne c r [])
      | cons h' t' =>
        rw [ih ([] ++ [x]) h' t' hr] at e
        rw [ih (cur ++ [x]) h' t' hr]
        cases e
        simp
theorem index_cons_ne {b c : UInt8} {l : List UInt8} (h : b ≠ c) : index (b :: l) [c] = if index l [c] == -1 then -1 else index l [c] + 1 := by
  rw [index, if_neg]
  simp [List.isPrefixOf]
  exact fun e => h e.symm
theorem index_cons_eq {c : UInt8} {l : List UInt8} : index (c :: l) [c] = 0 := by
  rw [index, if_pos]
  simp [List.isPrefixOf]
theorem index_low (l : List UInt8) (c : UInt8) : -1 ≤ index l [c] := by
  induction l with
  | nil => simp [index]
  | cons b r ih =>
    by_cases h : b = c
    · subst h; rw [index_cons_eq]; omega
    · rw [index_cons_ne h]
      split <;> omega
theorem splitK_one (c : UInt8) : ∀ l : List UInt8, splitK [c] 0 (count l [c]) l = splitL c l := by
  intro l
  induction l with
  | nil => rw [count_one]; rfl
  | cons b r ih =>
    by_cases h : b = c
    · subst h
      rw [count_cons_eq, Nat.add_comm, splitK, index_cons_eq, if_neg (by decide)]
      unfold splitL at ih ⊢
      rw [splitAcc, if_pos rfl, ← ih]
      simp
    · rw [count_cons_ne b c r h]
      have e : splitL c (b :: r) = splitAcc c [b] r := by unfold splitL; rw [splitAcc, if_neg h]; rfl
      rw [e]
      cases hr : splitL c r with
      | nil => exact absurd hr (splitAcc_ne c r [])
      | cons h' t' =>
        rw [splitAcc_prep c r [b] h' t' hr]
        rw [hr] at ih
        cases hk : count r [c] with
        | zero =>
          rw [hk, splitK] at ih
          cases ih
          rw [splitK]; rfl
        | succ k =>
          rw [hk, splitK] at ih
          rw [splitK, index_cons_ne h]
          have hlo := index_low r c
          by_cases hi : index r [c] = -1
          · rw [hi, if_pos (by decide)] at ih
            cases ih
            rw [hi, if_pos (by decide)]; rfl
          · have hi2 : ¬ (index r [c] == -1) = true := fun e => hi (beq_iff_eq.1 e)
            rw [if_neg hi2] at ih
            rw [if_neg hi2, if_neg (by intro e; have := beq_iff_eq.1 e; omega)]
            cases ih
            rw [show (index r [c] + 1).toNat = (index r [c]).toNat + 1 by omega]
            simp [List.take_succ_cons]
theorem splitB_words (c : UInt8) (s : ByteArray) : splitB ⟨#[c]⟩ 0 (countB s ⟨#[c]⟩) s = (splitL c s.data.toList).map strOf := by
  have h := splitB_data ⟨#[c]⟩ 0 (countB s ⟨#[c]⟩) s
  have e : splitK (⟨#[c]⟩ : ByteArray).data.toList 0 (countB s ⟨#[c]⟩) s.data.toList = splitL c s.data.toList := splitK_one c s.data.toList
  rw [e] at h
  rw [← h, List.map_map]
  have : (strOf ∘ fun x : ByteArray => x.data.toList) = id := by funext x; rfl
  rw [this, List.map_id]
theorem count_words (c : UInt8) (s : ByteArray) : countB s ⟨#[c]⟩ + 1 = (splitL c s.data.toList).length := by
  have h := splitB_all ⟨#[c]⟩ (Nat.le_refl 1) 0 (countB s ⟨#[c]⟩) s rfl
  rw [splitB_words, List.length_map] at h
  exact h.symm
end Go.Proofs.YtgeidnnjljpdkaaGreatDoor
namespace Go.Proofs.YtgeidnnjljpdkaaGreatDoor
open Go.RowKit

theorem flat_len : ∀ (Y : List (ByteArray × ByteArray)), (∀ p ∈ Y, p.1.size ≤ 100 ∧ p.2.size ≤ 100) → (flatL Y).length ≤ 200 * Y.length := by
  intro Y hY
  induction Y with
  | nil => simp [flatL]
  | cons y r ih =>
    have h1 := hY y (by simp)
    have h2 := ih (fun z hz => hY z (by simp [hz]))
    have e1 : y.1.data.toList.length = y.1.size := rfl
    have e2 : y.2.data.toList.length = y.2.size := rfl
    simp only [flatL, List.length_append, List.length_cons]
    omega
theorem armsN_len {d l f s o n x c k a t c' k' a' t' : Int} (h : aOkB d l f s o n x c k a t c' k' a' t' = true) : (armsN d l f s o n x c k a t c' k' a' t').size ≤ 800 := by
  have h1 := flat_len _ (layers_size h)
  have h2 := (layers_len d l f s o n x c k a t c' k' a' t').2
  rw [flatL_arms] at h1
  have e : (armsN d l f s o n x c k a t c' k' a' t').data.toList.length = (armsN d l f s o n x c k a t c' k' a' t').size := rfl
  omega
/-- The words of a text. -/
def wordsL (T : ByteArray) : List ByteArray := (splitL 32 T.data.toList).map strOf
theorem wordsL_len (T : ByteArray) : 1 ≤ (wordsL T).length ∧ (wordsL T).length ≤ T.size + 1 := by
  unfold wordsL
  rw [List.length_map]
  exact splitL_len 32 T.data.toList
set_option maxRecDepth 100000 in
set_option maxHeartbeats 4000000 in
theorem armsWords_any (d l f s o n x c k a t c' k' a' t' : Int) (w : World) (r : Bool) (hr : aOkB d l f s o n x c k a t c' k' a' t' = r) (hT : STabs w) (hM : MaxLenAt w) :
    Calls Tryz.prog 30 #[.agg #[.int .i64 d, .int .i64 l, .int .i64 f, .int .i64 s, .int .i64 o, .int .i64 n, .int .i64 x, .int .i64 c, .int .i64 k, .int .i64 a, .int .i64 t, .int .i64 c', .int .i64 k', .int .i64 a', .int .i64 t']] w (AnsT w (if r = true then wordsL (armsN d l f s o n x c k a t c' k' a' t') else []) r) := by
  have HA := Lib.hid (fun W (hb : Below w.heap.size w W) => armsText_impl d l f s o n x c k a t c' k' a' t' W r hr (hT.below hb))
  have HM := Lib.hid (fun W (hb : Below w.heap.size w W) => hM.below hb)
  have K0 := Lib.hid (AK.new w [.int .i64 d, .int .i64 l, .int .i64 f, .int .i64 s, .int .i64 o, .int .i64 n, .int .i64 x, .int .i64 c, .int .i64 k, .int .i64 a, .int .i64 t, .int .i64 c', .int .i64 k', .int .i64 a', .int .i64 t'])
  have r0 := K0.out.1.range
  clear hT hM
  cases r
  · clear hr
    generalize armsN d l f s o n x c k a t c' k' a' t' = T at *
    go_enter Tryz.func30, Tryz.ntmps30
    go_wp2_with (with_reducible refine isList ?_; refine ld15 1 w.heap.size [.int .i64 d, .int .i64 l, .int .i64 f, .int .i64 s, .int .i64 o, .int .i64 n, .int .i64 x, .int .i64 c, .int .i64 k, .int .i64 a, .int .i64 t, .int .i64 c', .int .i64 k', .int .i64 a', .int .i64 t'] rfl rfl rfl rfl ?_ ?_; exact r0)
    clear r0
    refine (HA.out _ K0.out.2).mono ?_
    rintro e w1 ⟨rfl, g1⟩
    have K1 := Lib.hid (K0.out.below g1)
    clear g1
    go_wp2_with fail
    go_ret2
    exact ⟨none, 0, rfl, ownS_nil _ _, K1.out.2⟩
  · have hz := armsN_len hr
    rw [if_pos rfl] at HA ⊢
    generalize armsN d l f s o n x c k a t c' k' a' t' = T at *
    clear hr
    go_enter Tryz.func30, Tryz.ntmps30
    go_wp2_with (with_reducible refine isList ?_; refine ld15 1 w.heap.size [.int .i64 d, .int .i64 l, .int .i64 f, .int .i64 s, .int .i64 o, .int .i64 n, .int .i64 x, .int .i64 c, .int .i64 k, .int .i64 a, .int .i64 t, .int .i64 c', .int .i64 k', .int .i64 a', .int .i64 t'] rfl rfl rfl rfl ?_ ?_; exact r0)
    clear r0
    refine (HA.out _ K0.out.2).mono ?_
    rintro e w1 ⟨rfl, g1⟩
    have K1 := Lib.hid (K0.out.below g1)
    clear g1
    obtain ⟨m, hm⟩ := HM.out _ K1.out.2
    go_wp2_with fail
    refine (Tryz.strings_Split T ⟨#[32]⟩ m _ (by omega) hm (by decide)).mono ?_
    rintro e w2 ⟨rfl, rfl⟩
    have hln : (splitL 32 T.data.toList).length = (wordsL T).length := by unfold wordsL; rw [List.length_map]
    rw [splitB_words, count_words, hln]
    have hw := wordsL_len T
    have hown := ownS_lit w1 w.heap.size (by have := K1.out.2.size; omega) (wordsL T) (by omega)
    have HO : Hid (OwnS (w1.alloc (.cells (((splitL 32 T.data.toList).map strOf).map Value.string).toArray 9 (0, 0))) w.heap.size (some ⟨w1.heap.size, 0, none⟩) (wordsL T).length (wordsL T).length (wordsL T)) := Lib.hid hown
    clear hown hln hw hm
    go_wp2_with fail
    go_ret2
    exact ⟨_, _, rfl, by have h := HO.out; rw [List.map_map] at h; exact h, K1.out.2.alloc K1.out.2.size _⟩
end Go.Proofs.YtgeidnnjljpdkaaGreatDoor
namespace Go.Proofs.YtgeidnnjljpdkaaGreatDoor
open Go.RowKit

theorem ownsRow_down {w : World} {b b' : Nat} {e : TypeId} {size : Nat} {v : Value} {n : Nat} {xs : List Value} (h : w.ownsRow b e size v n xs) (hb : b' ≤ b) : w.ownsRow b' e size v n xs := by
  obtain ⟨h1, h2⟩ := h
  refine ⟨h1, ?_⟩
  rcases h2 with h2 | ⟨g, cap, cur, hv, hg, r⟩
  · exact .inl h2
  · exact .inr ⟨g, cap, cur, hv, by omega, r⟩
/-- The texts of layers, without what connects them. -/
def textsL (X : List (ByteArray × ByteArray)) : List ByteArray := X.map (·.2)
end Go.Proofs.YtgeidnnjljpdkaaGreatDoor
namespace Go.Proofs.YtgeidnnjljpdkaaGreatDoor
open Go.RowKit

/-- Lines of at most wd bytes: what is done, the line at hand, and the words that are left. -/
def fillL (wd : Int) : List ByteArray → ByteArray → List ByteArray → List ByteArray
  | done, cur, [] => done ++ [cur]
  | done, cur, y :: r => if (cur.size : Int) + 1 + (y.size : Int) ≤ wd then fillL wd done (cur ++ ⟨#[32]⟩ ++ y) r else fillL wd (done ++ [cur]) y r
def wrapL (wd : Int) : List ByteArray → List ByteArray
  | [] => []
  | x :: r => fillL wd [] x r
theorem fillL_len (wd : Int) : ∀ (r done : List ByteArray) (cur : ByteArray), (fillL wd done cur r).length ≤ done.length + 1 + r.length ∧ 1 ≤ (fillL wd done cur r).length
  | [], done, cur => by simp [fillL]
  | y :: r, done, cur => by
    rw [fillL]
    split
    · have := fillL_len wd r done (cur ++ ⟨#[32]⟩ ++ y)
      simp only [List.length_cons]; omega
    · have := fillL_len wd r (done ++ [cur]) y
      simp only [List.length_cons, List.length_append, List.length_nil] at this ⊢; omega
theorem wrapL_len (wd : Int) (ws : List ByteArray) : (wrapL wd ws).length ≤ ws.length := by
  cases ws with
  | nil => simp [wrapL]
  | cons x r => have := (fillL_len wd r [] x).1; simp only [wrapL, List.length_cons, List.length_nil] at this ⊢; omega
theorem splitAcc_size (c : UInt8) : ∀ (l cur p : List UInt8), p ∈ splitAcc c cur l → p.length ≤ cur.length + l.length := by
  intro l
  induction l with
  | nil => intro cur p h; simp [splitAcc] at h; subst h; simp
  | cons x r ih =>
    intro cur p h
    rw [splitAcc] at h
    split at h
    · rcases List.mem_cons.1 h with rfl | h
      · omega
      · have := ih [] p h; simp only [List.length_nil, List.length_cons] at this ⊢; omega
    · have := ih _ p h; simp only [List.length_append, List.length_cons, List.length_nil] at this ⊢; omega
theorem words_size (T y : ByteArray) (h : y ∈ wordsL T) : y.size ≤ T.size := by
  unfold wordsL at h
  obtain ⟨p, hp, rfl⟩ := List.mem_map.1 h
  have := splitAcc_size 32 T.data.toList [] p hp
  rw [size_strOf]
  have e : T.data.toList.length = T.size := rfl
  simp only [List.length_nil] at this; omega
theorem set_last (done : List ByteArray) (cur z : ByteArray) : ((done ++ [cur]).map Value.string).set done.length (.string z) = (done ++ [z]).map Value.string := by
  simp
theorem wdrop_at {r : List ByteArray} {q : Nat} (h : q < r.length) : ∃ y, r[q]? = some y ∧ r.drop q = y :: r.drop (q + 1) ∧ y ∈ r :=
  ⟨r[q], List.getElem?_eq_getElem h, List.drop_eq_getElem_cons h, List.getElem_mem h⟩
set_option maxRecDepth 100000 in
set_option maxHeartbeats 8000000 in
theorem filled_any (wd : Int) (hwd : 12 ≤ wd ∧ wd ≤ 80) (x : ByteArray) (r : List ByteArray) (b o C : Nat) (w : World) (hC : r.length ≤ C) (hb : b < w.heap.size) (hr : r.length ≤ 1000) (hx : x.size ≤ 1000) (hs : ∀ y ∈ r, y.size ≤ 1000)
    (h0 : w.cell? ⟨b, o, none⟩ = some (.string x)) (hk : ∀ k y, r[k]? = some y → w.cell? ⟨b, o + 1 + k, none⟩ = some (.string y)) :
    Calls Tryz.prog 31 #[.slice (some ⟨b, o, none⟩) (r.length + 1) (C + 1), .int .i64 wd] w (AnsTL w (wrapL wd (x :: r))) := by
  obtain ⟨i0, hi, hz0, hz1, hz2⟩ := info_parts infoS
  obtain ⟨N, hN⟩ : ∃ N, r.length = N := ⟨_, rfl⟩
  have HK := Lib.hid hk
  have HSZ := Lib.hid hs
  rw [hN] at hC hr
  have HN := Lib.hid hN
  have hs0 := ownS_lit w w.heap.size (Nat.le_refl _) [x] (by simp)
  have hown0 : (w.alloc (.cells #[.string x] 9 (0, 0))).ownsRow w.heap.size 9 1 (.slice (some ⟨w.heap.size, 0, none⟩) 1 1) 1 [.string x] := hs0
  have HO0 := Lib.hid hown0
  have hl : (1 : Int) ≤ (N : Int) + 1 := by omega
  have hl2 : (N : Int) ≤ (C : Int) := by omega
  unfold wrapL
  rw [hN]
  clear hk hs hN hs0 hown0
  go_enter Tryz.func31, Tryz.ntmps31
  go_wp2_with fail
  · go_loopg [5, 17] N (fun gh v i wr => ∃ (q D g cap : Nat) (done : List ByteArray) (cur : ByteArray), q + gh = N ∧ i = .int .i64 (q : Int) ∧ v = .slice (some ⟨g, 0, none⟩) (D + 1) cap ∧ done.length = D ∧ D ≤ q ∧ cur.size ≤ 1000 ∧
      wr.ownsRow w.heap.size 9 1 (.slice (some ⟨g, 0, none⟩) (D + 1) cap) (D + 1) ((done ++ [cur]).map Value.string) ∧ Below w.heap.size w wr ∧ Hid (fillL wd done cur (r.drop q) = fillL wd [] x r))
    case atStart => exact ⟨0, 0, w.heap.size, 1, [], x, by omega, rfl, rfl, rfl, by omega, hx, HO0.out, (Below.refl _ _).alloc (Nat.le_refl _) _, Lib.hid rfl⟩
    case round =>
      obtain ⟨q, D, g, cap, done, cur, hq, rfl, rfl, hD, hDq, hcz, hown, hbl, hf⟩ := hrel
      have hsz := hbl.size
      by_cases hlt : q < N
      · exfalso; omega
      · obtain rfl : q = N := by omega
        have hf' := hf.out
        rw [List.drop_eq_nil_of_le (by have := HN.out; omega), fillL] at hf'
        have HE := Lib.hid hf'
        have HB := Lib.hid hbl
        have HO := Lib.hid hown
        have hl3 : (done ++ [cur]).length = D + 1 := by simp [hD]
        have HL := Lib.hid hl3
        clear hbl hown hf hf' hD hl3
        go_wp2_with fail
        go_ret
        exact ⟨some ⟨g, 0, none⟩, cap, by rw [← HE.out, HL.out]; rfl, by rw [← HE.out, HL.out]; exact HO.out, HB.out⟩
  · go_loopg [5, 17] N (fun gh v i wr => ∃ (q D g cap : Nat) (done : List ByteArray) (cur : ByteArray), q + gh = N ∧ i = .int .i64 (q : Int) ∧ v = .slice (some ⟨g, 0, none⟩) (D + 1) cap ∧ done.length = D ∧ D ≤ q ∧ cur.size ≤ 1000 ∧
      wr.ownsRow w.heap.size 9 1 (.slice (some ⟨g, 0, none⟩) (D + 1) cap) (D + 1) ((done ++ [cur]).map Value.string) ∧ Below w.heap.size w wr ∧ Hid (fillL wd done cur (r.drop q) = fillL wd [] x r))
    case atStart => exact ⟨0, 0, w.heap.size, 1, [], x, by omega, rfl, rfl, rfl, by omega, hx, HO0.out, (Below.refl _ _).alloc (Nat.le_refl _) _, Lib.hid rfl⟩
    case round =>
      obtain ⟨q, D, g, cap, done, cur, hq, rfl, rfl, hD, hDq, hcz, hown, hbl, hf⟩ := hrel
      have hsz := hbl.size
      by_cases hlt : q < N
      · obtain ⟨gh, rfl⟩ : ∃ gh, gk = gh + 1 := ⟨gk - 1, by omega⟩
        obtain ⟨y, hy, hd, hm⟩ := wdrop_at (r := r) (q := q) (by have := HN.out; omega)
        have hyz := HSZ.out y hm
        have cy : wr.cell? ⟨b, o + 1 + q, none⟩ = some (.string y) := (hbl.cell (p := ⟨b, o + 1 + q, none⟩) hb).trans (HK.out q y hy)
        have cc : wr.cell? ⟨g, D, none⟩ = some (.string cur) := by
          rw [hown.cellAt D (by omega)]
          simp [← hD]
        have cf := hown.frozenAt D
        have n0 : ¬ 9223372036854775807 < cur.size + 1 := by omega
        have n1 : ¬ 9223372036854775807 < cur.size + 1 + y.size := by omega
        have hf' := hf.out
        rw [hd, fillL] at hf'
        by_cases hle : (cur.size : Int) + 1 + (y.size : Int) ≤ wd
        · rw [if_pos hle] at hf'
          have HF := Lib.hid hf'
          have hle2 : ¬ wd < (cur.size : Int) + 1 + (y.size : Int) := by omega
          have hst := hown.stored D (.string (cur ++ ⟨#[32]⟩ ++ y))
          have HST := Lib.hid hst
          have HD := Lib.hid hD
          clear hd hm hy hf hf' hst hown hD
          go_wp2_with fail
          go_roundg gh
          case measure => omega
          case rel =>
            have e := set_last done cur (cur ++ ⟨#[32]⟩ ++ y)
            rw [HD.out] at e
            have h1 := HST.out.1
            rw [e] at h1
            have e2 : (cur ++ ⟨#[32]⟩ ++ y).size = cur.size + 1 + y.size := by simp [ByteArray.size_append]; rfl
            exact ⟨q + 1, D, g, cap, done, cur ++ ⟨#[32]⟩ ++ y, by omega, by go_num, rfl, HD.out, by omega, by rw [e2]; omega, h1, hbl.grown HST.out.2 hsz (fun k hk => (World.ownsRow.lt HST.out.1 k hk).1), HF⟩
        · rw [if_neg hle] at hf'
          have HF := Lib.hid hf'
          have hle2 : wd < (cur.size : Int) + 1 + (y.size : Int) := by omega
          have HD := Lib.hid hD
          clear hd hm hy hf hf' hD
          go_wp2_with (at_builtin; refine wpList_append_lies _ rfl _ _ 38 rfl w.heap.size 9 i0 (.string ByteArray.empty) 1 16 Tryz.underlying38 hi hz0 hz1 hz2 rfl (by decide) _ _ _ rfl (hown.alloc _) ⟨wr.heap.size, 0, none⟩ 1 1 [.string y] rfl rfl (cell_one_new _ _ _) (fun x hx => by simp at hx; subst hx; rfl) (by decide) (by unfold maxLen; omega) (by omega) (by simp; omega) _ rfl ?_; intro g' cap' w3 hown' hgrow _ _)
          go_roundg gh
          case measure => omega
          case rel =>
            exact ⟨q + 1, D + 1, g', cap', done ++ [cur], y, by omega, by go_num, rfl, by simp [HD.out], by omega, hyz, by simpa using hown', (hbl.alloc hsz _).grown hgrow (by simp; omega) (fun k hk => (World.ownsRow.lt hown k hk).1), HF⟩
      · obtain rfl : q = N := by omega
        have hf' := hf.out
        rw [List.drop_eq_nil_of_le (by have := HN.out; omega), fillL] at hf'
        have HE := Lib.hid hf'
        have HB := Lib.hid hbl
        have HO := Lib.hid hown
        have hl3 : (done ++ [cur]).length = D + 1 := by simp [hD]
        have HL := Lib.hid hl3
        clear hbl hown hf hf' hD hl3
        go_wp2_with fail
        go_ret
        exact ⟨some ⟨g, 0, none⟩, cap, by rw [← HE.out, HL.out]; rfl, by rw [← HE.out, HL.out]; exact HO.out, HB.out⟩
end Go.Proofs.YtgeidnnjljpdkaaGreatDoor
namespace Go.Proofs.YtgeidnnjljpdkaaGreatDoor
open Go.RowKit

theorem wrapL_head {wd : Int} {ws : List ByteArray} {x : ByteArray} (h : ws[0]? = some x) : wrapL wd ws = fillL wd [] x (ws.drop 1) := by
  cases ws with
  | nil => simp at h
  | cons a b => simp at h; subst h; rfl
set_option maxRecDepth 100000 in
set_option maxHeartbeats 8000000 in
theorem l6Wrap_any (wd : Int) (hwd : 12 ≤ wd ∧ wd ≤ 80) (T : ByteArray) (w : World) (hT : T.size ≤ 800) :
    Calls Tryz.prog 33 #[.string T, .int .i64 wd] w (AnsTL w (wrapL wd (wordsL T))) := by
  obtain ⟨i0, hi, hz0, hz1, hz2⟩ := info_parts infoS
  have hlen := wordsL_len T
  have HSZ := Lib.hid (fun y (h : y ∈ wordsL T) => words_size T y h)
  have HSP := Lib.hid (fun W => l1Split_any T 32 W (by omega))
  have hN0 : (splitL 32 T.data.toList).length = (wordsL T).length := by unfold wordsL; rw [List.length_map]
  have hmap : (splitL 32 T.data.toList).map encS = (wordsL T).map Value.string := by unfold wordsL; rw [List.map_map]; rfl
  unfold OwnStrs at HSP
  rw [hN0, hmap] at HSP
  generalize wordsL T = ws at *
  obtain ⟨M, hM⟩ : ∃ M, ws.length = M := ⟨_, rfl⟩
  rw [hM] at HSP hlen
  obtain ⟨x, hx⟩ : ∃ x, ws[0]? = some x := ⟨ws[0], List.getElem?_eq_getElem (by omega)⟩
  have HWR := Lib.hid (wrapL_head (wd := wd) hx)
  have hxz := HSZ.out x (List.mem_of_getElem? hx)
  have HX := Lib.hid hx
  have HM := Lib.hid hM
  have hM1 : (0 : Int) < (M : Int) := by omega
  have hM2 : 0 < M := by omega
  have own0 := ownS_lit w w.heap.size (Nat.le_refl _) [] (by simp)
  have HO0 := Lib.hid own0
  have B0 := Lib.hid ((Below.refl _ w).alloc (Nat.le_refl _) (.cells #[] 9 (0, 0)))
  clear hN0 hmap hx hM own0
  go_enter Tryz.func33, Tryz.ntmps33
  go_wp2_with fail
  refine (HSP.out _).mono ?_
  rintro e w1 ⟨v_, rfl, g, cap, rfl, ho, hb1⟩
  have hgl := (World.ownsRow.lt ho g rfl)
  have hne : w.heap.size ≠ g := by have := hgl.1; simp at this; omega
  have hg2 := hgl.2
  have HC := Lib.hid (show ∀ k y, ws[k]? = some y → w1.cell? ⟨g, k, none⟩ = some (.string y) from fun k y hk => by
    have hk2 : k < M := by rw [← HM.out]; exact (List.getElem?_eq_some_iff.1 hk).1
    rw [ho.cellAt k (by omega), List.getElem?_map, hk]; rfl)
  have c0 := HC.out 0 x HX.out
  have hown1 : w1.ownsRow w.heap.size 9 1 (.slice (some ⟨w.heap.size, 0, none⟩) 0 0) 0 [] := OwnS.below (X := []) HO0.out hb1
  have HO1 := Lib.hid hown1
  have B1 := Lib.hid (B0.out.trans (hb1.mono B0.out.size))
  clear ho hb1 hgl HO0 HSP B0 hown1
  go_wp2_with fail
  go_loopg [5, 7, 8] (M - 1) (fun gh v cu i wr => ∃ (p D : Nat) (done : List ByteArray) (cur : ByteArray), 1 ≤ p ∧ p + gh = M ∧ i = .int .i64 (p : Int) ∧ cu = .string cur ∧ done.length = D ∧ D ≤ p ∧ cur.size ≤ 1000 ∧
    wr.ownsRow w.heap.size 9 1 v D (done.map Value.string) ∧ v.ownBlock ≠ some g ∧ Below w.heap.size w wr ∧ g < wr.heap.size ∧ Hid (∀ k y, ws[k]? = some y → wr.cell? ⟨g, k, none⟩ = some (.string y)) ∧ Hid (fillL wd done cur (ws.drop p) = wrapL wd ws))
  case atStart => exact ⟨1, 0, [], x, by omega, by omega, rfl, rfl, rfl, by omega, by omega, HO1.out, by simpa [Value.ownBlock] using hne, B1.out, hg2, HC, Lib.hid HWR.out.symm⟩
  case round =>
    obtain ⟨p, D, done, cur, hp1, hq, rfl, rfl, hD, hDq, hcz, hown, hvg, hbl, hgw, hc, hf⟩ := hrel
    have hsz := hbl.size
    by_cases hlt : p < M
    · obtain ⟨gh, rfl⟩ : ∃ gh, gk = gh + 1 := ⟨gk - 1, by omega⟩
      obtain ⟨y, hy, hd, hm⟩ := wdrop_at (r := ws) (q := p) (by have := HM.out; omega)
      have hyz := HSZ.out y hm
      have cy := hc.out p y hy
      have n0 : ¬ 9223372036854775807 < cur.size + 1 := by omega
      have n1 : ¬ 9223372036854775807 < cur.size + 1 + y.size := by omega
      have hf' := hf.out
      rw [hd, fillL] at hf'
      by_cases hle : (cur.size : Int) + 1 + (y.size : Int) ≤ wd
      · rw [if_pos hle] at hf'
        have HF := Lib.hid hf'
        clear hd hm hy hf hf' c0
        go_wp2_with fail
        go_roundg gh
        case measure => omega
        case rel =>
          have e2 : (cur ++ ⟨#[32]⟩ ++ y).size = cur.size + 1 + y.size := by simp [ByteArray.size_append]; rfl
          exact ⟨p + 1, D, done, cur ++ ⟨#[32]⟩ ++ y, by omega, by omega, by go_num, rfl, hD, by omega, by rw [e2]; omega, hown, hvg, hbl, hgw, hc, HF⟩
      · rw [if_neg hle] at hf'
        have HF := Lib.hid hf'
        have HP := Lib.hid ((Below.refl _ wr).alloc (Nat.le_refl _) (.cells #[.string cur] 9 (0, 0)))
        have hcA : Hid (∀ k y, ws[k]? = some y → (wr.alloc (.cells #[.string cur] 9 (0, 0))).cell? ⟨g, k, none⟩ = some (.string y)) := Lib.hid fun k y hk => (HP.out.cell (p := ⟨g, k, none⟩) hgw).trans (hc.out k y hk)
        have HY := Lib.hid hy
        clear hd hm hy hf hf' c0
        go_wp2_with (at_builtin; refine wpList_append_lies _ rfl _ _ 38 rfl w.heap.size 9 i0 (.string ByteArray.empty) 1 16 Tryz.underlying38 hi hz0 hz1 hz2 rfl (by decide) _ _ _ rfl (hown.alloc _) ⟨wr.heap.size, 0, none⟩ 1 1 [.string cur] rfl rfl (cell_one_new _ _ _) (fun x hx => by simp at hx; subst hx; rfl) (by decide) (by unfold maxLen; omega) (by omega) (by simp; omega) _ rfl ?_; intro g' cap' w3 hown' hgrow hor _; have hc3 : Hid (∀ k y, ws[k]? = some y → w3.cell? ⟨g, k, none⟩ = some (.string y)) := Lib.hid (fun k y hk => hgrow.cell (hcA.out k y hk) (fun e2 => hvg (by first | exact e2 | exact e2.symm))); have cy3 := hc3.out p y HY.out)
        go_roundg gh
        case measure => omega
        case rel =>
          have hgs := hgrow.size
          simp only [World.size_alloc] at hgs hor
          exact ⟨p + 1, D + 1, done ++ [cur], y, by omega, by omega, by go_num, rfl, by simp [hD], by omega, by omega, by simpa using hown', by
            intro e2
            simp only [Value.ownBlock, Option.some.injEq] at e2
            subst e2
            rcases hor with h | h
            · exact hvg h
            · (try simp at h); omega, (hbl.alloc hsz _).grown hgrow (by simp; omega) (fun k hk => (World.ownsRow.lt hown k hk).1), by omega, hc3, HF⟩
    · obtain rfl : p = M := by omega
      have hf' := hf.out
      rw [List.drop_eq_nil_of_le (by have := HM.out; omega), fillL] at hf'
      have HE := Lib.hid hf'
      have hl3 : (done ++ [cur]).length = D + 1 := by simp [hD]
      have HL := Lib.hid hl3
      clear hf hf' hl3 c0
      go_wp2_with (at_builtin; refine wpList_append_lies _ rfl _ _ 38 rfl w.heap.size 9 i0 (.string ByteArray.empty) 1 16 Tryz.underlying38 hi hz0 hz1 hz2 rfl (by decide) _ _ _ rfl (hown.alloc _) ⟨wr.heap.size, 0, none⟩ 1 1 [.string cur] rfl rfl (cell_one_new _ _ _) (fun x hx => by simp at hx; subst hx; rfl) (by decide) (by unfold maxLen; omega) (by omega) (by simp; omega) _ rfl ?_; intro g' cap' w3 hown' hgrow hor _)
      go_ret
      have hown2 : OwnS w3 w.heap.size (some ⟨g', 0, none⟩) (D + 1) cap' (done ++ [cur]) := by unfold OwnS; simpa using hown'
      exact ⟨some ⟨g', 0, none⟩, cap', by rw [← HE.out, HL.out]; rfl, by rw [← HE.out, HL.out]; exact hown2, (hbl.alloc hsz _).grown hgrow (by simp; omega) (fun k hk => (World.ownsRow.lt hown k hk).1)⟩
set_option maxRecDepth 100000 in
set_option maxHeartbeats 4000000 in
theorem wrap_spec (d l f s o n x c k a t c' k' a' t' wd : Int) (w : World) (r p : Bool) (hr : aOkB d l f s o n x c k a t c' k' a' t' = r) (hp : decide (12 ≤ wd ∧ wd ≤ 80) = p) :
    Calls Tryz.prog 11 #[.agg #[.int .i64 d, .int .i64 l, .int .i64 f, .int .i64 s, .int .i64 o, .int .i64 n, .int .i64 x, .int .i64 c, .int .i64 k, .int .i64 a, .int .i64 t, .int .i64 c', .int .i64 k', .int .i64 a', .int .i64 t'], .int .i64 wd] w (AnsT w (if (r && p) = true then wrapL wd (wordsL (armsN d l f s o n x c k a t c' k' a' t')) else []) (r && p)) := by
  have HC := Lib.hid (fun W => l5Good_any d l f s o n x c k a t c' k' a' t' W r hr)
  have HI := Lib.hid (fun W => l1In_any wd 12 80 W p hp)
  have K0 := Lib.hid (AK.new w [.int .i64 d, .int .i64 l, .int .i64 f, .int .i64 s, .int .i64 o, .int .i64 n, .int .i64 x, .int .i64 c, .int .i64 k, .int .i64 a, .int .i64 t, .int .i64 c', .int .i64 k', .int .i64 a', .int .i64 t'])
  have r0 := K0.out.1.range
  cases r
  · clear hr hp HI
    rw [Bool.false_and]
    go_enter Tryz.func11, Tryz.ntmps11
    go_wp2_with (with_reducible refine isList ?_; refine ld15 2 w.heap.size [.int .i64 d, .int .i64 l, .int .i64 f, .int .i64 s, .int .i64 o, .int .i64 n, .int .i64 x, .int .i64 c, .int .i64 k, .int .i64 a, .int .i64 t, .int .i64 c', .int .i64 k', .int .i64 a', .int .i64 t'] rfl rfl rfl rfl ?_ ?_; exact r0)
    clear r0
    refine (HC.out _).mono ?_
    rintro e w1 ⟨rfl, g1⟩
    have K1 := Lib.hid (K0.out.below g1)
    clear g1
    go_wp2_with fail
    go_ret2
    exact ⟨_, _, rfl, ownS_lit w1 w.heap.size K1.out.2.size [] (by simp), K1.out.2.alloc K1.out.2.size _⟩
  · cases p
    · clear hr hp
      rw [Bool.true_and]
      go_enter Tryz.func11, Tryz.ntmps11
      go_wp2_with (with_reducible refine isList ?_; refine ld15 2 w.heap.size [.int .i64 d, .int .i64 l, .int .i64 f, .int .i64 s, .int .i64 o, .int .i64 n, .int .i64 x, .int .i64 c, .int .i64 k, .int .i64 a, .int .i64 t, .int .i64 c', .int .i64 k', .int .i64 a', .int .i64 t'] rfl rfl rfl rfl ?_ ?_; exact r0)
      clear r0
      refine (HC.out _).mono ?_
      rintro e w1 ⟨rfl, g1⟩
      have K1 := Lib.hid (K0.out.below g1)
      clear g1
      go_wp2_with fail
      refine (HI.out _).mono ?_
      rintro e w2 ⟨rfl, rfl⟩
      go_wp2_with fail
      go_ret2
      exact ⟨_, _, rfl, ownS_lit w1 w.heap.size K1.out.2.size [] (by simp), K1.out.2.alloc K1.out.2.size _⟩
    · have HT := Lib.hid (fun W => l6Text_any d l f s o n x c k a t c' k' a' t' W hr)
      have hz := armsN_len hr
      have HW := Lib.hid (fun W => l6Wrap_any wd (of_decide_eq_true hp) (armsN d l f s o n x c k a t c' k' a' t') W hz)
      rw [Bool.true_and, if_pos rfl]
      generalize armsN d l f s o n x c k a t c' k' a' t' = T at *
      clear hr hp hz
      go_enter Tryz.func11, Tryz.ntmps11
      go_wp2_with (with_reducible refine isList ?_; refine ld15 2 w.heap.size [.int .i64 d, .int .i64 l, .int .i64 f, .int .i64 s, .int .i64 o, .int .i64 n, .int .i64 x, .int .i64 c, .int .i64 k, .int .i64 a, .int .i64 t, .int .i64 c', .int .i64 k', .int .i64 a', .int .i64 t'] rfl rfl rfl rfl ?_ ?_; exact r0)
      clear r0
      refine (HC.out _).mono ?_
      rintro e w1 ⟨rfl, g1⟩
      have K1 := Lib.hid (K0.out.below g1)
      clear g1
      go_wp2_with fail
      refine (HI.out _).mono ?_
      rintro e w2 ⟨rfl, rfl⟩
      have r0 := K1.out.1.range
      go_wp2_with (with_reducible refine isList ?_; refine ld15 2 w.heap.size [.int .i64 d, .int .i64 l, .int .i64 f, .int .i64 s, .int .i64 o, .int .i64 n, .int .i64 x, .int .i64 c, .int .i64 k, .int .i64 a, .int .i64 t, .int .i64 c', .int .i64 k', .int .i64 a', .int .i64 t'] rfl rfl rfl rfl ?_ ?_; exact r0)
      clear r0
      refine (HT.out _).mono ?_
      rintro e w3 ⟨rfl, g1⟩
      have K3 := Lib.hid (K1.out.below g1)
      clear g1
      go_wp2_with fail
      refine (HW.out _).mono ?_
      rintro e w4 ⟨a1, cap, rfl, ho, g1⟩
      have HO := Lib.hid (ownsRow_down ho K3.out.2.size)
      have K4 := Lib.hid (K3.out.below g1)
      clear g1 ho
      go_wp2_with fail
      go_ret2
      exact ⟨a1, cap, rfl, HO.out, K4.out.2⟩
theorem OwnS.head {w : World} {B n cap : Nat} {a : Option Addr} {X : List ByteArray} (h : OwnS w B a n cap X) (h0 : 0 < n) : ∃ (g : Nat) (x : ByteArray) (r : List ByteArray) (C : Nat), a = some ⟨g, 0, none⟩ ∧ cap = C + 1 ∧ n = r.length + 1 ∧ X = x :: r ∧ r.length ≤ C ∧ g < w.heap.size ∧ w.cell? ⟨g, 0, none⟩ = some (.string x) ∧ ∀ k y, r[k]? = some y → w.cell? ⟨g, 0 + 1 + k, none⟩ = some (.string y) := by
  have hl := h.len
  rcases h.2 with ⟨_, h1⟩ | ⟨g, cap', cur, h1, hB, hg, hnc, _⟩
  · omega
  · cases h1
    cases X with
    | nil => simp at hl; omega
    | cons x r =>
      simp only [List.length_cons] at hl
      refine ⟨g, x, r, cap - 1, rfl, by omega, by omega, rfl, by omega, heap_lt hg, ?_, fun k y hk => ?_⟩
      · rw [World.ownsRow.cellAt h 0 (by omega)]; rfl
      · have hk2 : k < r.length := (List.getElem?_eq_some_iff.1 hk).1
        rw [show 0 + 1 + k = k + 1 by omega, World.ownsRow.cellAt h (k + 1) (by omega)]
        simp [hk]
set_option maxRecDepth 100000 in
set_option maxHeartbeats 4000000 in
theorem wrap_impl (d l f s o n x c k a t c' k' a' t' wd : Int) (w : World) (r p : Bool) (hr : aOkB d l f s o n x c k a t c' k' a' t' = r) (hp : decide (12 ≤ wd ∧ wd ≤ 80) = p) (hT : STabs w) (hM : MaxLenAt w) :
    Calls Tryz.prog 10 #[.agg #[.int .i64 d, .int .i64 l, .int .i64 f, .int .i64 s, .int .i64 o, .int .i64 n, .int .i64 x, .int .i64 c, .int .i64 k, .int .i64 a, .int .i64 t, .int .i64 c', .int .i64 k', .int .i64 a', .int .i64 t'], .int .i64 wd] w (AnsT w (if (r && p) = true then wrapL wd (wordsL (armsN d l f s o n x c k a t c' k' a' t')) else []) (r && p)) := by
  have HA := Lib.hid (fun W (hb : Below w.heap.size w W) => armsWords_any d l f s o n x c k a t c' k' a' t' W r hr (hT.below hb) (hM.below hb))
  have K0 := Lib.hid (AK.new w [.int .i64 d, .int .i64 l, .int .i64 f, .int .i64 s, .int .i64 o, .int .i64 n, .int .i64 x, .int .i64 c, .int .i64 k, .int .i64 a, .int .i64 t, .int .i64 c', .int .i64 k', .int .i64 a', .int .i64 t'])
  have r0 := K0.out.1.range
  clear hT hM
  cases r
  · clear hr hp
    rw [Bool.false_and]
    go_enter Tryz.func10, Tryz.ntmps10
    go_wp2_with (with_reducible refine isList ?_; refine ld15 2 w.heap.size [.int .i64 d, .int .i64 l, .int .i64 f, .int .i64 s, .int .i64 o, .int .i64 n, .int .i64 x, .int .i64 c, .int .i64 k, .int .i64 a, .int .i64 t, .int .i64 c', .int .i64 k', .int .i64 a', .int .i64 t'] rfl rfl rfl rfl ?_ ?_; exact r0)
    clear r0
    refine (HA.out _ K0.out.2).mono ?_
    rintro e w1 ⟨a1, c1, rfl, ho, g1⟩
    have K1 := Lib.hid (K0.out.below g1)
    clear g1
    go_wp2_with fail
    go_ret2
    exact ⟨none, 0, rfl, ownS_nil _ _, K1.out.2⟩
  · have hz := armsN_len hr
    rw [if_pos rfl] at HA
    cases p
    · rw [Bool.true_and]
      generalize armsN d l f s o n x c k a t c' k' a' t' = T at *
      have h2 : ¬ (12 ≤ wd ∧ wd ≤ 80) := of_decide_eq_false hp
      by_cases hlo : wd < 12
      · clear hr hp h2
        go_enter Tryz.func10, Tryz.ntmps10
        go_wp2_with (with_reducible refine isList ?_; refine ld15 2 w.heap.size [.int .i64 d, .int .i64 l, .int .i64 f, .int .i64 s, .int .i64 o, .int .i64 n, .int .i64 x, .int .i64 c, .int .i64 k, .int .i64 a, .int .i64 t, .int .i64 c', .int .i64 k', .int .i64 a', .int .i64 t'] rfl rfl rfl rfl ?_ ?_; exact r0)
        clear r0
        refine (HA.out _ K0.out.2).mono ?_
        rintro e w1 ⟨a1, c1, rfl, ho, g1⟩
        have K1 := Lib.hid (K0.out.below g1)
        clear g1
        go_wp2_with fail
        go_ret2
        exact ⟨none, 0, rfl, ownS_nil _ _, K1.out.2⟩
      · have hhi : 80 < wd := by omega
        clear hr hp h2
        go_enter Tryz.func10, Tryz.ntmps10
        go_wp2_with (with_reducible refine isList ?_; refine ld15 2 w.heap.size [.int .i64 d, .int .i64 l, .int .i64 f, .int .i64 s, .int .i64 o, .int .i64 n, .int .i64 x, .int .i64 c, .int .i64 k, .int .i64 a, .int .i64 t, .int .i64 c', .int .i64 k', .int .i64 a', .int .i64 t'] rfl rfl rfl rfl ?_ ?_; exact r0)
        clear r0
        refine (HA.out _ K0.out.2).mono ?_
        rintro e w1 ⟨a1, c1, rfl, ho, g1⟩
        have K1 := Lib.hid (K0.out.below g1)
        clear g1
        go_wp2_with fail
        go_ret2
        exact ⟨none, 0, rfl, ownS_nil _ _, K1.out.2⟩
    · have hw : 12 ≤ wd ∧ wd ≤ 80 := of_decide_eq_true hp
      have hlo : ¬ wd < 12 := by omega
      have hhi : ¬ 80 < wd := by omega
      rw [Bool.true_and, if_pos rfl]
      have hlen := wordsL_len (armsN d l f s o n x c k a t c' k' a' t')
      have HSZ := Lib.hid (fun y (h : y ∈ wordsL (armsN d l f s o n x c k a t c' k' a' t')) => words_size (armsN d l f s o n x c k a t c' k' a' t') y h)
      generalize armsN d l f s o n x c k a t c' k' a' t' = T at *
      generalize wordsL T = ws at *
      clear hr hp
      go_enter Tryz.func10, Tryz.ntmps10
      go_wp2_with (with_reducible refine isList ?_; refine ld15 2 w.heap.size [.int .i64 d, .int .i64 l, .int .i64 f, .int .i64 s, .int .i64 o, .int .i64 n, .int .i64 x, .int .i64 c, .int .i64 k, .int .i64 a, .int .i64 t, .int .i64 c', .int .i64 k', .int .i64 a', .int .i64 t'] rfl rfl rfl rfl ?_ ?_; exact r0)
      clear r0
      refine (HA.out _ K0.out.2).mono ?_
      rintro e w1 ⟨a1, c1, rfl, ho, g1⟩
      have K1 := Lib.hid (K0.out.below g1)
      obtain ⟨g, x, q, C, rfl, rfl, hn, rfl, hC, hgl, cx, cr⟩ := OwnS.head ho (by omega)
      have HF := Lib.hid (filled_any wd hw x q g 0 C w1 hC hgl (by simp only [List.length_cons] at hlen; omega) (Nat.le_trans (HSZ.out x (by simp)) (by omega)) (fun y hy => Nat.le_trans (HSZ.out y (by simp [hy])) (by omega)) cx cr)
      clear g1 ho cx cr hn hC
      go_wp2_with fail
      refine (HF.out).mono ?_
      rintro e w2 ⟨a2, c2, rfl, ho, g1⟩
      have HO := Lib.hid (ownsRow_down ho K1.out.2.size)
      have K2 := Lib.hid (K1.out.below g1)
      clear g1 ho
      go_wp2_with fail
      go_ret2
      exact ⟨a2, c2, rfl, HO.out, K2.out.2⟩
end Go.Proofs.YtgeidnnjljpdkaaGreatDoor
namespace Go.Proofs.YtgeidnnjljpdkaaGreatDoor
theorem wrapN_len {d l f s o n x c k a t c' k' a' t' wd : Int} {r p : Bool} (hr : aOkB d l f s o n x c k a t c' k' a' t' = r) : (if (r && p) = true then wrapL wd (wordsL (armsN d l f s o n x c k a t c' k' a' t')) else []).length ≤ 1000 := by
  split
  · rename_i h
    have h1 : r = true := by cases r <;> simp_all
    subst h1
    have h2 := wrapL_len wd (wordsL (armsN d l f s o n x c k a t c' k' a' t'))
    have h3 := wordsL_len (armsN d l f s o n x c k a t c' k' a' t')
    have h4 := armsN_len hr
    omega
  · simp
end Go.Proofs.YtgeidnnjljpdkaaGreatDoor
