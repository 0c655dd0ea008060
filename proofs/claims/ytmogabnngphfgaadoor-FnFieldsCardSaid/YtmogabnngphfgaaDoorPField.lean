/- Contract: the program's ParseField: the field whose text it is, if there is one. -/
import Derived.Test.YtmogabnngphfgaaDoorPMathF
import Derived.Test.YtmogabnngphfgaaDoorRText
import Derived.Test.YtmogabnngphfgaaDoorShape
import Derived.Test.YtmogabnngphfgaaDoorDrawField
namespace Go.Proofs.YtmogabnngphfgaaDoor
open Go.RowKit

theorem strOf_bytes (s : ByteArray) : (⟨s.data.toList.toArray⟩ : ByteArray) = s := by simp
theorem tinP_is (c : List UInt8) : IsParse 9 ⟨c.toArray⟩ (tinP c) := by
  unfold tinP
  cases h : wordL.findIdx? (fun t => t.data.toList == c) with
  | none =>
    refine .inl ⟨rfl, fun i hi e => ?_⟩
    have h1 := List.findIdx?_eq_none_iff.1 h (wordN i) (by
      have hl : i < wordL.length := hi
      have : wordN i = wordL[i] := by simp [wordN, List.getD, hl]
      rw [this]; exact List.getElem_mem _)
    rw [e] at h1
    simp at h1
  | some i =>
    obtain ⟨hl, h1, _⟩ := List.findIdx?_eq_some_iff_getElem.1 h
    have h9 : wordL.length = 9 := rfl
    refine .inr ⟨Nat.succ_le_succ (Nat.zero_le i), (by omega : i + 1 ≤ 9), ?_⟩
    show wordN (i + 1 - 1) = _
    have e : wordN (i + 1 - 1) = wordL[i] := by simp [wordN, List.getD, hl]
    rw [e]
    have h2 : wordL[i].data.toList = c := by simpa using h1
    rw [← h2]
theorem cutFrom_len (s : List UInt8) : ∀ (T : List (List UInt8)) (k : Nat), (cutFrom s T k).2.length ≤ s.length := by
  intro T
  induction T with
  | nil => intro k; exact Nat.le_refl _
  | cons t r ih =>
    intro k
    rw [cutFrom]
    split
    · simp
    · exact ih _
theorem cut_len (s sep : List UInt8) : (Lib.cut s sep).1.length ≤ s.length ∧ (Lib.cut s sep).2.1.length ≤ s.length := by
  unfold Lib.cut
  split
  · simp; omega
  · simp
theorem divT_small : ∀ t ∈ divT, t.size ≤ 20 := by decide
theorem lineT_small : ∀ t ∈ lineT, t.size ≤ 20 := by decide
theorem divT_lie {w : World} (h : DivsLie w) : ∀ i t, divT[i]? = some t → w.cell? ⟨0, i, none⟩ = some (.string t) := by
  intro i t ht
  have hi : i < 7 := (List.getElem?_eq_some_iff.1 ht).1
  have h1 := h i hi
  rcases (show i = 0 ∨ i = 1 ∨ i = 2 ∨ i = 3 ∨ i = 4 ∨ i = 5 ∨ i = 6 by omega) with rfl | rfl | rfl | rfl | rfl | rfl | rfl <;> (cases ht; exact h1)
theorem lineT_lie {w : World} (h : LinesLie w) : ∀ i t, lineT[i]? = some t → w.cell? ⟨1, i, none⟩ = some (.string t) := by
  intro i t ht
  have hi : i < 4 := (List.getElem?_eq_some_iff.1 ht).1
  have h1 := h i hi
  rcases (show i = 0 ∨ i = 1 ∨ i = 2 ∨ i = 3 by omega) with rfl | rfl | rfl | rfl <;> (cases ht; exact h1)

set_option maxRecDepth 100000 in
set_option maxHeartbeats 8000000 in
theorem parseField_walk (s t : ByteArray) (p1 p2 p3 p4 : Nat) (r1 r2 c1 c2 : List UInt8) (cb ok v : Bool) (w : World) (hT : TabsLie w) (hM : MaxLenAt w)
    (k1 : ∀ W, DivsLie W → Calls Tryd.prog 24 #[.string s, .slice (some ⟨0, 0, none⟩) 7 7] W fun e w' => e = .returned (.tuple #[.int .i64 (p1 : Int), .string ⟨r1.toArray⟩]) ∧ ∃ q, w' = W.drewN q)
    (k2 : ∀ W, LinesLie W → Calls Tryd.prog 24 #[.string ⟨r1.toArray⟩, .slice (some ⟨1, 0, none⟩) 4 4] W fun e w' => e = .returned (.tuple #[.int .i64 (p2 : Int), .string ⟨r2.toArray⟩]) ∧ ∃ q, w' = W.drewN q)
    (k3 : ∀ W, MaxLenAt W → Calls Tryd.prog 25 #[.string ⟨r2.toArray⟩, .string ⟨#[32, 97, 110, 100, 32]⟩] W fun e w' => e = .returned (.tuple #[.string ⟨c1.toArray⟩, .string ⟨c2.toArray⟩, .bool cb]) ∧ ∃ n, w' = W.drewN n)
    (k4 : ∀ W, WordsLie W → Calls Tryd.prog 26 #[.string ⟨c1.toArray⟩] W fun e w' => e = .returned (.tuple #[.int .i64 (p3 : Int), .bool (decide (0 < p3))]) ∧ Below W.heap.size W w')
    (k5 : ∀ W, WordsLie W → Calls Tryd.prog 26 #[.string ⟨c2.toArray⟩] W fun e w' => e = .returned (.tuple #[.int .i64 (p4 : Int), .bool (decide (0 < p4))]) ∧ Below W.heap.size W w')
    (k6 : ∀ W, TabsLie W → Calls Tryd.prog 8 #[.agg #[.int .i64 (p1 : Int), .int .i64 (p2 : Int), .int .i64 (p3 : Int), .int .i64 (p4 : Int)]] W fun e w' => e = .returned (.tuple #[.string t, .bool ok]) ∧ Below W.heap.size W w')
    (hv : (ok && decide (t = s)) = v) :
    Calls Tryd.prog 9 #[.string s] w (if v = true then AnsF w p1 p2 p3 p4 true else AnsF w 0 0 0 0 false) := by
  have H1 := Lib.hid k1
  have H2 := Lib.hid k2
  have H3 := Lib.hid k3
  have H4 := Lib.hid k4
  have H5 := Lib.hid k5
  have H6 := Lib.hid k6
  have HT := Lib.hid hT
  have HM := Lib.hid hM
  have hR0 := (BoxF.new w [.int .i64 0, .int .i64 0, .int .i64 0, .int .i64 0] 25).alloc (.cells #[.int .i64 0, .int .i64 0, .int .i64 0, .int .i64 0] 25 (0, 0))
  have hF0 := BoxF.new (w.alloc (.cells #[.int .i64 0, .int .i64 0, .int .i64 0, .int .i64 0] 25 (0, 0))) [.int .i64 0, .int .i64 0, .int .i64 0, .int .i64 0] 25
  rw [World.size_alloc] at hF0
  have hB0 : Below w.heap.size w ((w.alloc (.cells #[.int .i64 0, .int .i64 0, .int .i64 0, .int .i64 0] 25 (0, 0))).alloc (.cells #[.int .i64 0, .int .i64 0, .int .i64 0, .int .i64 0] 25 (0, 0))) := ((Below.refl _ w).alloc (Nat.le_refl _) _).alloc (by simp) _
  clear k1 k2 k3 k4 k5 k6 hT hM
  go_enter Tryd.func9, Tryd.ntmps9
  go_wp2_with fail
  generalize (w.alloc (.cells #[.int .i64 0, .int .i64 0, .int .i64 0, .int .i64 0] 25 (0, 0))).alloc (.cells #[.int .i64 0, .int .i64 0, .int .i64 0, .int .i64 0] 25 (0, 0)) = W0 at *
  refine (H1.out _ (HT.out.below hB0).2.1).mono ?_
  rintro e w1 ⟨rfl, q, rfl⟩
  obtain ⟨x0, x1, x2, x3, xf⟩ := hF0.four
  have G1 := grownBy_set (W0.drewN q) (w.heap.size + 1) 0 (.int .i64 (p1 : Int))
  have hF1 := (show BoxF (W0.drewN q) _ _ _ from hF0).set 0 (.int .i64 (p1 : Int))
  have hR1 := (show BoxF (W0.drewN q) _ _ _ from hR0).kept G1 (by simp)
  have hB1 := (below_drewN' hB0 q).grown G1 hB0.size (fun k hk => by cases hk; omega)
  simp only [List.set_cons_zero] at hF1
  have F1 := Lib.hid hF1
  have R1 := Lib.hid hR1
  have B1 := Lib.hid hB1
  clear G1 hF1 hR1 hB1 hF0 hR0 hB0
  go_wp2_with fail
  clear x0 x1 x2 x3 xf
  generalize (W0.drewN q).setCell ⟨w.heap.size + 1, 0, none⟩ (.int .i64 (p1 : Int)) = W1 at *
  refine (H2.out _ (HT.out.below B1.out).2.2).mono ?_
  rintro e w1 ⟨rfl, q2, rfl⟩
  obtain ⟨x0, x1, x2, x3, xf⟩ := (show BoxF (W1.drewN q2) _ _ _ from F1.out).four
  have G2 := grownBy_set (W1.drewN q2) (w.heap.size + 1) 1 (.int .i64 (p2 : Int))
  have hF2 := (show BoxF (W1.drewN q2) _ _ _ from F1.out).set 1 (.int .i64 (p2 : Int))
  have hR2 := (show BoxF (W1.drewN q2) _ _ _ from R1.out).kept G2 (by simp)
  have hB2 := (below_drewN' B1.out q2).grown G2 (below_drewN' B1.out q2).size (fun k hk => by cases hk; omega)
  simp only [List.set_cons_succ, List.set_cons_zero] at hF2
  have F2 := Lib.hid hF2
  have R2 := Lib.hid hR2
  have B2 := Lib.hid hB2
  clear G2 hF2 hR2 hB2 F1 R1 B1
  go_wp2_with fail
  clear x0 x1 x2 x3 xf
  generalize (W1.drewN q2).setCell ⟨w.heap.size + 1, 1, none⟩ (.int .i64 (p2 : Int)) = W2 at *
  refine (H3.out _ (HM.out.below B2.out)).mono ?_
  rintro e w1 ⟨rfl, q3, rfl⟩
  go_wp2_with fail
  refine (H4.out _ (HT.out.below (below_drewN' B2.out q3)).1).mono ?_
  rintro e w3 ⟨rfl, hb3⟩
  have g3 : (W2.drewN q3).grownBy w3 none := ⟨hb3.os, hb3.tape, hb3.output, hb3.size, fun i hi _ => hb3.block i hi⟩
  have F3 := Lib.hid ((show BoxF (W2.drewN q3) _ _ _ from F2.out).kept g3 (by simp))
  have R3 := Lib.hid ((show BoxF (W2.drewN q3) _ _ _ from R2.out).kept g3 (by simp))
  have B3 := Lib.hid ((below_drewN' B2.out q3).trans (hb3.mono (below_drewN' B2.out q3).size))
  obtain ⟨x0, x1, x2, x3, xf⟩ := F3.out.four
  clear hb3 g3 F2 R2 B2
  have G4 := grownBy_set w3 (w.heap.size + 1) 2 (.int .i64 (p3 : Int))
  have hF4 := (F3.out).set 2 (.int .i64 (p3 : Int))
  have hR4 := (R3.out).kept G4 (by simp)
  have hB4 := (B3.out).grown G4 (B3.out).size (fun k hk => by cases hk; omega)
  simp only [List.set_cons_succ, List.set_cons_zero] at hF4
  have F4 := Lib.hid hF4
  have R4 := Lib.hid hR4
  have B4 := Lib.hid hB4
  clear G4 hF4 hR4 hB4 F3 R3 B3
  go_wp2_with fail
  clear x0 x1 x2 x3 xf
  generalize w3.setCell ⟨w.heap.size + 1, 2, none⟩ (.int .i64 (p3 : Int)) = W4 at *
  refine (H5.out _ (HT.out.below B4.out).1).mono ?_
  rintro e w5 ⟨rfl, hb5⟩
  have g5 : W4.grownBy w5 none := ⟨hb5.os, hb5.tape, hb5.output, hb5.size, fun i hi _ => hb5.block i hi⟩
  have F5 := Lib.hid (F4.out.kept g5 (by simp))
  have R5 := Lib.hid (R4.out.kept g5 (by simp))
  have B5 := Lib.hid (B4.out.trans (hb5.mono B4.out.size))
  obtain ⟨x0, x1, x2, x3, xf⟩ := F5.out.four
  clear hb5 g5 F4 R4 B4
  have G6 := grownBy_set w5 (w.heap.size + 1) 3 (.int .i64 (p4 : Int))
  have hF6 := (F5.out).set 3 (.int .i64 (p4 : Int))
  have hR6 := (R5.out).kept G6 (by simp)
  have hB6 := (B5.out).grown G6 (B5.out).size (fun k hk => by cases hk; omega)
  simp only [List.set_cons_succ, List.set_cons_zero] at hF6
  have F6 := Lib.hid hF6
  have R6 := Lib.hid hR6
  have B6 := Lib.hid hB6
  clear G6 hF6 hR6 hB6 F5 R5 B5
  obtain ⟨u0, u1, u2, u3, uf⟩ := F6.out.four
  go_wp2_with fail
  clear x0 x1 x2 x3 xf u0 u1 u2 u3 uf
  generalize w5.setCell ⟨w.heap.size + 1, 3, none⟩ (.int .i64 (p4 : Int)) = W6 at *
  refine (H6.out _ (HT.out.below B6.out)).mono ?_
  rintro e w7 ⟨rfl, hb7⟩
  have g7 : W6.grownBy w7 none := ⟨hb7.os, hb7.tape, hb7.output, hb7.size, fun i hi _ => hb7.block i hi⟩
  have F7 := Lib.hid (F6.out.kept g7 (by simp))
  have R7 := Lib.hid (R6.out.kept g7 (by simp))
  have B7 := Lib.hid (B6.out.trans (hb7.mono B6.out.size))
  obtain ⟨x0, x1, x2, x3, xf⟩ := F7.out.four
  obtain ⟨y0, y1, y2, y3, yf⟩ := R7.out.four
  clear hb7 g7 F6 R6 B6 H1 H2 H3 H4 H5 H6 HT HM
  cases ok
  · obtain rfl : v = false := by simpa using hv.symm
    go_wp2_with fail
    exact bodyPost_ret (v := .tuple #[.agg #[.int .i64 0, .int .i64 0, .int .i64 0, .int .i64 0], .bool false]) (by simp [results, Tryd.results9, go_sem, y0, y1, y2, y3]) rfl ⟨rfl, B7.out.grown (grown4 w7 w.heap.size _ _ _ _) B7.out.size (fun k hk => by cases hk; exact Nat.le_refl _)⟩
  · by_cases hts : t = s
    · obtain rfl : v = true := by rw [← hv]; simp [hts]
      subst hts
      clear hv
      go_wp2_with fail
      exact bodyPost_ret (v := .tuple #[.agg #[.int .i64 (p1 : Int), .int .i64 (p2 : Int), .int .i64 (p3 : Int), .int .i64 (p4 : Int)], .bool true]) (by simp [results, Tryd.results9, go_sem, y0, y1, y2, y3]) rfl ⟨rfl, B7.out.grown (grown4 w7 w.heap.size _ _ _ _) B7.out.size (fun k hk => by cases hk; exact Nat.le_refl _)⟩
    · obtain rfl : v = false := by rw [← hv]; simp [hts]
      have hne := str_ne hts
      clear hv hts
      go_wp2_with fail
      exact bodyPost_ret (v := .tuple #[.agg #[.int .i64 0, .int .i64 0, .int .i64 0, .int .i64 0], .bool false]) (by simp [results, Tryd.results9, go_sem, y0, y1, y2, y3]) rfl ⟨rfl, B7.out.grown (grown4 w7 w.heap.size _ _ _ _) B7.out.size (fun k hk => by cases hk; exact Nat.le_refl _)⟩
/-- What ParseField answers: the field with this text, or none. -/
def PAns (s : ByteArray) (d l f x : Int) (ok : Bool) : Prop := (ok = true ∧ FOk d l f x ∧ textN d.toNat l.toNat (f - 1).toNat (x - 1).toNat = s) ∨ (ok = false ∧ (d = 0 ∧ l = 0 ∧ f = 0 ∧ x = 0) ∧ ∀ d l f x : Int, FOk d l f x → textN d.toNat l.toNat (f - 1).toNat (x - 1).toNat ≠ s)
theorem parseField_impl (s : ByteArray) (hs : s.size ≤ 1048576) : ∃ (d l f x : Int) (ok : Bool), PAns s d l f x ok ∧ ∀ w, TabsLie w → MaxLenAt w → Calls Tryd.prog 9 #[.string s] w (AnsF w d l f x ok) := by
  obtain ⟨p1, r1, h1⟩ : ∃ p1 r1, cutFrom s.data.toList divTL 0 = (p1, r1) := ⟨_, _, rfl⟩
  obtain ⟨p2, r2, h2⟩ : ∃ p2 r2, cutFrom r1 lineTL 0 = (p2, r2) := ⟨_, _, rfl⟩
  obtain ⟨c1, c2, cb, h3⟩ : ∃ c1 c2 cb, Lib.cut r2 [32, 97, 110, 100, 32] = (c1, c2, cb) := ⟨_, _, _, rfl⟩
  have hR : readP s.data.toList = (p1, p2, tinP c1, tinP c2) := by
    unfold readP
    simp only [h1, h2, h3]
  have q0 : s.data.toList.length = s.size := by simp
  have q1 : r1.length ≤ s.size := by
    have := cutFrom_len s.data.toList divTL 0
    rw [h1] at this
    simp only at this
    omega
  have q2 : r2.length ≤ s.size := by
    have := cutFrom_len r1 lineTL 0
    rw [h2] at this
    simp only at this
    omega
  have q3 := cut_len r2 [32, 97, 110, 100, 32]
  rw [h3] at q3
  have k1 : ∀ W, DivsLie W → Calls Tryd.prog 24 #[.string s, .slice (some ⟨0, 0, none⟩) 7 7] W fun e w' => e = .returned (.tuple #[.int .i64 (p1 : Int), .string ⟨r1.toArray⟩]) ∧ ∃ q, w' = W.drewN q := fun W hW => by
    have c := cutWord_any divT 0 7 s W rfl (by decide) divT_small (divT_lie hW)
    rw [show cutFrom s.data.toList (bytesOfL divT) 0 = (p1, r1) from h1] at c
    exact c
  have k2 : ∀ W, LinesLie W → Calls Tryd.prog 24 #[.string ⟨r1.toArray⟩, .slice (some ⟨1, 0, none⟩) 4 4] W fun e w' => e = .returned (.tuple #[.int .i64 (p2 : Int), .string ⟨r2.toArray⟩]) ∧ ∃ q, w' = W.drewN q := fun W hW => by
    have c := cutWord_any lineT 1 4 ⟨r1.toArray⟩ W rfl (by decide) lineT_small (lineT_lie hW)
    rw [show cutFrom (⟨r1.toArray⟩ : ByteArray).data.toList (bytesOfL lineT) 0 = (p2, r2) from h2] at c
    exact c
  have k3 : ∀ W, MaxLenAt W → Calls Tryd.prog 25 #[.string ⟨r2.toArray⟩, .string ⟨#[32, 97, 110, 100, 32]⟩] W fun e w' => e = .returned (.tuple #[.string ⟨c1.toArray⟩, .string ⟨c2.toArray⟩, .bool cb]) ∧ ∃ n, w' = W.drewN n := fun W hW => by
    obtain ⟨m, hm⟩ := hW
    have hz : (⟨r2.toArray⟩ : ByteArray).size = r2.length := rfl
    have c := Tryd.strings_Cut ⟨r2.toArray⟩ ⟨#[32, 97, 110, 100, 32]⟩ m W (by omega) hm
    rw [show Lib.cut (⟨r2.toArray⟩ : ByteArray).data.toList (⟨#[32, 97, 110, 100, 32]⟩ : ByteArray).data.toList = (c1, c2, cb) from h3] at c
    exact c
  have z1 : (⟨c1.toArray⟩ : ByteArray).size = c1.length := rfl
  have z2 : (⟨c2.toArray⟩ : ByteArray).size = c2.length := rfl
  have k4 := fun W hW => parse_impl ⟨c1.toArray⟩ (tinP c1) (by simp only at q3; omega) (tinP_is c1) W hW
  have k5 := fun W hW => parse_impl ⟨c2.toArray⟩ (tinP c2) (by simp only at q3; omega) (tinP_is c2) W hW
  by_cases hF : FOk p1 p2 (tinP c1) (tinP c2)
  · have k6 := fun W hW => fieldText_yes p1 p2 (tinP c1) (tinP c2) W hF hW
    by_cases ht : textN (p1 : Int).toNat (p2 : Int).toNat ((tinP c1 : Int) - 1).toNat ((tinP c2 : Int) - 1).toNat = s
    · exact ⟨p1, p2, tinP c1, tinP c2, true, .inl ⟨rfl, hF, ht⟩, fun w hT hM => parseField_walk s _ p1 p2 _ _ r1 r2 c1 c2 cb true true w hT hM k1 k2 k3 k4 k5 k6 (by rw [decide_eq_true ht]; rfl)⟩
    · refine ⟨0, 0, 0, 0, false, .inr ⟨rfl, ⟨rfl, rfl, rfl, rfl⟩, fun d l f x hf hx => ?_⟩, fun w hT hM => parseField_walk s _ p1 p2 _ _ r1 r2 c1 c2 cb true false w hT hM k1 k2 k3 k4 k5 k6 (by rw [decide_eq_false ht]; rfl)⟩
      have hr := readP_valid hf
      rw [hx, hR] at hr
      simp only [Prod.mk.injEq] at hr
      obtain ⟨e1, e2, e3, e4⟩ := hr
      obtain ⟨⟨_, _⟩, ⟨_, _⟩, ⟨_, _⟩, hxx⟩ := hf
      apply ht
      rw [show (p1 : Int).toNat = d.toNat by omega, show (p2 : Int).toNat = l.toNat by omega, show ((tinP c1 : Int) - 1).toNat = (f - 1).toNat by omega, show ((tinP c2 : Int) - 1).toNat = (x - 1).toNat by omega]
      exact hx
  · have k6 := fun W (_ : TabsLie W) => fieldText_no p1 p2 (tinP c1) (tinP c2) W hF
    refine ⟨0, 0, 0, 0, false, .inr ⟨rfl, ⟨rfl, rfl, rfl, rfl⟩, fun d l f x hf hx => ?_⟩, fun w hT hM => parseField_walk s _ p1 p2 _ _ r1 r2 c1 c2 cb false false w hT hM k1 k2 k3 k4 k5 k6 rfl⟩
    have hr := readP_valid hf
    rw [hx, hR] at hr
    simp only [Prod.mk.injEq] at hr
    obtain ⟨e1, e2, e3, e4⟩ := hr
    apply hF
    have g := hf
    obtain ⟨⟨_, _⟩, ⟨_, _⟩, ⟨_, _⟩, hxx⟩ := g
    have hx0 : 0 ≤ x := by rcases hxx with ⟨_, _, h⟩ | ⟨_, h, _⟩ <;> omega
    rw [show (p1 : Int) = d by omega, show (p2 : Int) = l by omega, show (tinP c1 : Int) = f by omega, show (tinP c2 : Int) = x by omega]
    exact hf
end Go.Proofs.YtmogabnngphfgaaDoor
