/- Contracts: ParseFinding of the program and of the model. -/
import Derived.Test.YtgoelkgdjnhklaaDoorE8TextJ
import Derived.Test.YtgoelkgdjnhklaaDoorKF
import Derived.Test.YtgoelkgdjnhklaaDoorKP
import Derived.Test.YtgoelkgdjnhklaaDoorShape
namespace Go.Proofs.YtgoelkgdjnhklaaDoor
open Go.RowKit

def startTL : List (List UInt8) := bytesOfL startL
/-- What the program reads out of a text before it compares. -/
def readFn (s : List UInt8) : Nat × Nat × Nat :=
  let a := cutFrom s startTL 0
  let c := Lib.cut (Lib.trimSuffix a.2 [46]) [32, 111, 110, 32]
  (a.1, tinP c.1, tinP c.2.1)
set_option maxRecDepth 100000 in
theorem readFn_all : ((List.range 3).all fun p => (List.range 9).all fun i => (List.range 9).all fun j => readFn (fText p i j).data.toList == (p + 1, i + 1, j + 1)) = true := by decide +kernel
theorem readFn_text {p i j : Nat} (hp : p < 3) (hi : i < 9) (hj : j < 9) : readFn (fText p i j).data.toList = (p + 1, i + 1, j + 1) := by
  have H := List.all_eq_true.1 (List.all_eq_true.1 (List.all_eq_true.1 readFn_all p (List.mem_range.2 hp)) i (List.mem_range.2 hi)) j (List.mem_range.2 hj)
  simpa using H
theorem startT_small : ∀ t ∈ startL, t.size ≤ 40 := by decide
theorem startT_lie {w : World} (h : StartsLie w) : ∀ i t, startL[i]? = some t → w.cell? ⟨3, i, none⟩ = some (.string t) := by
  intro i t ht
  have hi : i < 3 := (List.getElem?_eq_some_iff.1 ht).1
  have h1 := h i hi
  rcases (show i = 0 ∨ i = 1 ∨ i = 2 by omega) with rfl | rfl | rfl <;> (cases ht; exact h1)
/-- The answer: the finding with this sentence, or none. -/
def PFn (s : ByteArray) (p u l : Int) (ok : Bool) : Prop :=
  (ok = true ∧ fOkB p u l = true ∧ fT p u l = s) ∨ (ok = false ∧ p = 0 ∧ u = 0 ∧ l = 0 ∧ ∀ p' u' l', fOkB p' u' l' = true → fT p' u' l' ≠ s)
theorem grown3 (w : World) (b : Nat) (x0 x1 x2 : Value) : w.grownBy (((w.setCell ⟨b, 0, none⟩ x0).setCell ⟨b, 1, none⟩ x1).setCell ⟨b, 2, none⟩ x2) (some b) := ((grownBy_set _ _ _ _).trans (grownBy_set _ _ _ _)).trans (grownBy_set _ _ _ _)
theorem BoxF.three {w : World} {b : Nat} {x0 x1 x2 : Value} {t : TypeId} (h : BoxF w b [x0, x1, x2] t) : w.cell? ⟨b, 0, none⟩ = some x0 ∧ w.cell? ⟨b, 1, none⟩ = some x1 ∧ w.cell? ⟨b, 2, none⟩ = some x2 ∧ (∀ i, w.frozen? ⟨b, i, none⟩ = false) :=
  ⟨h.at 0, h.at 1, h.at 2, h.free⟩
set_option linter.unusedSimpArgs false in
set_option maxRecDepth 100000 in
set_option maxHeartbeats 8000000 in
theorem parseFn_walk (s t : ByteArray) (p1 p3 p4 : Nat) (r1 r2 c1 c2 : List UInt8) (cb ok v : Bool) (w : World) (hW : WordsLie w) (hS : StartsLie w) (hM : MaxLenAt w)
    (k1 : ∀ W, StartsLie W → Calls Tryd.prog 79 #[.string s, .slice (some ⟨3, 0, none⟩) 3 3] W fun e w' => e = .returned (.tuple #[.int .i64 (p1 : Int), .string ⟨r1.toArray⟩]) ∧ ∃ q, w' = W.drewN q)
    (k2 : ∀ W, Calls Tryd.prog 93 #[.string ⟨r1.toArray⟩, .string ⟨#[46]⟩] W fun e w' => e = .returned (.string ⟨r2.toArray⟩) ∧ W = w')
    (k3 : ∀ W, MaxLenAt W → Calls Tryd.prog 92 #[.string ⟨r2.toArray⟩, .string ⟨#[32, 111, 110, 32]⟩] W fun e w' => e = .returned (.tuple #[.string ⟨c1.toArray⟩, .string ⟨c2.toArray⟩, .bool cb]) ∧ ∃ n, w' = W.drewN n)
    (k4 : ∀ W, WordsLie W → Calls Tryd.prog 80 #[.string ⟨c1.toArray⟩] W fun e w' => e = .returned (.tuple #[.int .i64 (p3 : Int), .bool (decide (0 < p3))]) ∧ Below W.heap.size W w')
    (k5 : ∀ W, WordsLie W → Calls Tryd.prog 80 #[.string ⟨c2.toArray⟩] W fun e w' => e = .returned (.tuple #[.int .i64 (p4 : Int), .bool (decide (0 < p4))]) ∧ Below W.heap.size W w')
    (k6 : ∀ W, WordsLie W → StartsLie W → Calls Tryd.prog 30 #[.agg #[.int .i64 (p1 : Int), .int .i64 (p3 : Int), .int .i64 (p4 : Int)]] W fun e w' => e = .returned (.tuple #[.string t, .bool ok]) ∧ Below W.heap.size W w')
    (hv : (ok && decide (t = s)) = v) :
    Calls Tryd.prog 31 #[.string s] w fun e w' => e = .returned (if v = true then .tuple #[.agg #[.int .i64 (p1 : Int), .int .i64 (p3 : Int), .int .i64 (p4 : Int)], .bool true] else .tuple #[.agg #[.int .i64 0, .int .i64 0, .int .i64 0], .bool false]) ∧ Below w.heap.size w w' := by
  have H1 := Lib.hid k1
  have H2 := Lib.hid k2
  have H3 := Lib.hid k3
  have H4 := Lib.hid k4
  have H5 := Lib.hid k5
  have H6 := Lib.hid k6
  have HW := Lib.hid hW
  have HS := Lib.hid hS
  have HM := Lib.hid hM
  have hR0 := (BoxF.new w [.int .i64 0, .int .i64 0, .int .i64 0] 52).alloc (.cells #[.int .i64 0, .int .i64 0, .int .i64 0] 52 (0, 0))
  have hF0 := BoxF.new (w.alloc (.cells #[.int .i64 0, .int .i64 0, .int .i64 0] 52 (0, 0))) [.int .i64 0, .int .i64 0, .int .i64 0] 52
  rw [World.size_alloc] at hF0
  have hB0 : Below w.heap.size w ((w.alloc (.cells #[.int .i64 0, .int .i64 0, .int .i64 0] 52 (0, 0))).alloc (.cells #[.int .i64 0, .int .i64 0, .int .i64 0] 52 (0, 0))) := ((Below.refl _ w).alloc (Nat.le_refl _) _).alloc (by simp) _
  clear k1 k2 k3 k4 k5 k6 hW hS hM
  go_enter Tryd.func31, Tryd.ntmps31
  go_wp2_with fail
  generalize (w.alloc (.cells #[.int .i64 0, .int .i64 0, .int .i64 0] 52 (0, 0))).alloc (.cells #[.int .i64 0, .int .i64 0, .int .i64 0] 52 (0, 0)) = W0 at *
  refine (H1.out _ (HS.out.below hB0)).mono ?_
  rintro e w1 ⟨rfl, q, rfl⟩
  obtain ⟨x0, x1, x2, xf⟩ := hF0.three
  have G1 := grownBy_set (W0.drewN q) (w.heap.size + 1) 0 (.int .i64 (p1 : Int))
  have hF1 := (show BoxF (W0.drewN q) _ _ _ from hF0).set 0 (.int .i64 (p1 : Int))
  have hR1 := (show BoxF (W0.drewN q) _ _ _ from hR0).kept G1 (by simp)
  have hB1 := (below_drewN' hB0 q).grown G1 hB0.size (fun k hk => by cases hk; omega)
  simp only [List.set_cons_zero] at hF1
  have F1 := Lib.hid hF1
  have R1 := Lib.hid hR1
  have B1 := Lib.hid hB1
  clear G1 hF1 hR1 hB1 hF0 hR0 hB0
  go_wp2_with fail
  clear x0 x1 x2 xf
  generalize (W0.drewN q).setCell ⟨w.heap.size + 1, 0, none⟩ (.int .i64 (p1 : Int)) = W1 at *
  refine (H2.out _).mono ?_
  rintro e w2 ⟨rfl, rfl⟩
  go_wp2_with fail
  refine (H3.out _ (HM.out.below B1.out)).mono ?_
  rintro e w1 ⟨rfl, q3, rfl⟩
  go_wp2_with fail
  refine (H4.out _ (HW.out.below (below_drewN' B1.out q3))).mono ?_
  rintro e w3 ⟨rfl, hb3⟩
  have F3 := Lib.hid ((show BoxF (W1.drewN q3) _ _ _ from F1.out).below hb3)
  have R3 := Lib.hid ((show BoxF (W1.drewN q3) _ _ _ from R1.out).below hb3)
  have B3 := Lib.hid ((below_drewN' B1.out q3).trans (hb3.mono (below_drewN' B1.out q3).size))
  obtain ⟨x0, x1, x2, xf⟩ := F3.out.three
  clear hb3 F1 R1 B1
  have G4 := grownBy_set w3 (w.heap.size + 1) 1 (.int .i64 (p3 : Int))
  have hF4 := (F3.out).set 1 (.int .i64 (p3 : Int))
  have hR4 := (R3.out).kept G4 (by simp)
  have hB4 := (B3.out).grown G4 (B3.out).size (fun k hk => by cases hk; omega)
  simp only [List.set_cons_succ, List.set_cons_zero] at hF4
  have F4 := Lib.hid hF4
  have R4 := Lib.hid hR4
  have B4 := Lib.hid hB4
  clear G4 hF4 hR4 hB4 F3 R3 B3
  go_wp2_with fail
  clear x0 x1 x2 xf
  generalize w3.setCell ⟨w.heap.size + 1, 1, none⟩ (.int .i64 (p3 : Int)) = W4 at *
  refine (H5.out _ (HW.out.below B4.out)).mono ?_
  rintro e w5 ⟨rfl, hb5⟩
  have F5 := Lib.hid (F4.out.below hb5)
  have R5 := Lib.hid (R4.out.below hb5)
  have B5 := Lib.hid (B4.out.trans (hb5.mono B4.out.size))
  obtain ⟨x0, x1, x2, xf⟩ := F5.out.three
  clear hb5 F4 R4 B4
  have G6 := grownBy_set w5 (w.heap.size + 1) 2 (.int .i64 (p4 : Int))
  have hF6 := (F5.out).set 2 (.int .i64 (p4 : Int))
  have hR6 := (R5.out).kept G6 (by simp)
  have hB6 := (B5.out).grown G6 (B5.out).size (fun k hk => by cases hk; omega)
  simp only [List.set_cons_succ, List.set_cons_zero] at hF6
  have F6 := Lib.hid hF6
  have R6 := Lib.hid hR6
  have B6 := Lib.hid hB6
  clear G6 hF6 hR6 hB6 F5 R5 B5
  obtain ⟨u0, u1, u2, uf⟩ := F6.out.three
  go_wp2_with fail
  clear x0 x1 x2 xf u0 u1 u2 uf
  generalize w5.setCell ⟨w.heap.size + 1, 2, none⟩ (.int .i64 (p4 : Int)) = W6 at *
  refine (H6.out _ (HW.out.below B6.out) (HS.out.below B6.out)).mono ?_
  rintro e w7 ⟨rfl, hb7⟩
  have F7 := Lib.hid (F6.out.below hb7)
  have R7 := Lib.hid (R6.out.below hb7)
  have B7 := Lib.hid (B6.out.trans (hb7.mono B6.out.size))
  obtain ⟨x0, x1, x2, xf⟩ := F7.out.three
  obtain ⟨y0, y1, y2, yf⟩ := R7.out.three
  clear hb7 F6 R6 B6 H1 H2 H3 H4 H5 H6 HW HS HM
  cases ok
  · obtain rfl : v = false := by simpa using hv.symm
    go_wp2_with fail
    exact bodyPost_ret (v := .tuple #[.agg #[.int .i64 0, .int .i64 0, .int .i64 0], .bool false]) (by simp [results, Tryd.results31, go_sem, y0, y1, y2]) rfl ⟨rfl, B7.out.grown (grown3 w7 w.heap.size _ _ _) B7.out.size (fun k hk => by cases hk; exact Nat.le_refl _)⟩
  · by_cases hts : t = s
    · obtain rfl : v = true := by rw [← hv]; simp [hts]
      subst hts
      clear hv
      go_wp2_with fail
      exact bodyPost_ret (v := .tuple #[.agg #[.int .i64 (p1 : Int), .int .i64 (p3 : Int), .int .i64 (p4 : Int)], .bool true]) (by simp [results, Tryd.results31, go_sem, y0, y1, y2]) rfl ⟨rfl, B7.out.grown (grown3 w7 w.heap.size _ _ _) B7.out.size (fun k hk => by cases hk; exact Nat.le_refl _)⟩
    · obtain rfl : v = false := by rw [← hv]; simp [hts]
      have hne := str_ne hts
      clear hv hts
      go_wp2_with fail
      exact bodyPost_ret (v := .tuple #[.agg #[.int .i64 0, .int .i64 0, .int .i64 0], .bool false]) (by simp [results, Tryd.results31, go_sem, y0, y1, y2]) rfl ⟨rfl, B7.out.grown (grown3 w7 w.heap.size _ _ _) B7.out.size (fun k hk => by cases hk; exact Nat.le_refl _)⟩
/-- Whatever the string: the program's answer is the finding whose sentence it is, or none. -/
theorem parseFn_impl (s : ByteArray) (hs : s.size ≤ 1048576) : ∃ (p u l : Int) (ok : Bool), PFn s p u l ok ∧ ∀ w, WordsLie w → StartsLie w → MaxLenAt w → Calls Tryd.prog 31 #[.string s] w fun e w' => e = .returned (.tuple #[.agg #[.int .i64 p, .int .i64 u, .int .i64 l], .bool ok]) ∧ Below w.heap.size w w' := by
  obtain ⟨p1, r1, h1⟩ : ∃ p1 r1, cutFrom s.data.toList startTL 0 = (p1, r1) := ⟨_, _, rfl⟩
  obtain ⟨r2, h2⟩ : ∃ r2, Lib.trimSuffix r1 [46] = r2 := ⟨_, rfl⟩
  obtain ⟨c1, c2, cb, h3⟩ : ∃ c1 c2 cb, Lib.cut r2 [32, 111, 110, 32] = (c1, c2, cb) := ⟨_, _, _, rfl⟩
  have hR : readFn s.data.toList = (p1, tinP c1, tinP c2) := by
    unfold readFn
    simp only [h1, h2, h3]
  have q0 : s.data.toList.length = s.size := by simp
  have q1 : r1.length ≤ s.size := by
    have := cutFrom_len s.data.toList startTL 0
    rw [h1] at this
    simp only at this
    omega
  have q2 : r2.length ≤ s.size := by
    have := Lib.trimSuffix_le r1 [46]
    rw [h2] at this
    omega
  have q3 := cut_len r2 [32, 111, 110, 32]
  rw [h3] at q3
  have k1 : ∀ W, StartsLie W → Calls Tryd.prog 79 #[.string s, .slice (some ⟨3, 0, none⟩) 3 3] W fun e w' => e = .returned (.tuple #[.int .i64 (p1 : Int), .string ⟨r1.toArray⟩]) ∧ ∃ q, w' = W.drewN q := fun W hW => by
    have c := cutWord_40 startL 3 3 s W rfl (by decide) startT_small (startT_lie hW)
    rw [show cutFrom s.data.toList (bytesOfL startL) 0 = (p1, r1) from h1] at c
    exact c
  have k2 : ∀ W, Calls Tryd.prog 93 #[.string ⟨r1.toArray⟩, .string ⟨#[46]⟩] W fun e w' => e = .returned (.string ⟨r2.toArray⟩) ∧ W = w' := fun W => by
    have hz : (⟨r1.toArray⟩ : ByteArray).size = r1.length := rfl
    have c := Tryd.strings_TrimSuffix ⟨r1.toArray⟩ ⟨#[46]⟩ W (by omega)
    rw [show Lib.trimSuffix (⟨r1.toArray⟩ : ByteArray).data.toList (⟨#[46]⟩ : ByteArray).data.toList = r2 from h2] at c
    exact c.mono (fun e w' h => ⟨h.1, h.2.symm⟩)
  have k3 : ∀ W, MaxLenAt W → Calls Tryd.prog 92 #[.string ⟨r2.toArray⟩, .string ⟨#[32, 111, 110, 32]⟩] W fun e w' => e = .returned (.tuple #[.string ⟨c1.toArray⟩, .string ⟨c2.toArray⟩, .bool cb]) ∧ ∃ n, w' = W.drewN n := fun W hW => by
    obtain ⟨m, hm⟩ := hW
    have hz : (⟨r2.toArray⟩ : ByteArray).size = r2.length := rfl
    have c := Tryd.strings_Cut ⟨r2.toArray⟩ ⟨#[32, 111, 110, 32]⟩ m W (by omega) hm
    rw [show Lib.cut (⟨r2.toArray⟩ : ByteArray).data.toList (⟨#[32, 111, 110, 32]⟩ : ByteArray).data.toList = (c1, c2, cb) from h3] at c
    exact c
  have z1 : (⟨c1.toArray⟩ : ByteArray).size = c1.length := rfl
  have z2 : (⟨c2.toArray⟩ : ByteArray).size = c2.length := rfl
  have k4 := fun W hW => parse_impl ⟨c1.toArray⟩ (tinP c1) (by simp only at q3; omega) (tinP_is c1) W hW
  have k5 := fun W hW => parse_impl ⟨c2.toArray⟩ (tinP c2) (by simp only at q3; omega) (tinP_is c2) W hW
  have k6 := fun W hW hS => findText_any (p1 : Int) (tinP c1 : Int) (tinP c2 : Int) W hW hS
  by_cases hF : fOkB (p1 : Int) (tinP c1 : Int) (tinP c2 : Int) = true ∧ fT (p1 : Int) (tinP c1 : Int) (tinP c2 : Int) = s
  · exact ⟨p1, tinP c1, tinP c2, true, .inl ⟨rfl, hF.1, hF.2⟩, fun w hW hS hM => parseFn_walk s _ p1 _ _ r1 r2 c1 c2 cb _ true w hW hS hM k1 k2 k3 k4 k5 k6 (by rw [hF.1, decide_eq_true hF.2]; rfl)⟩
  · refine ⟨0, 0, 0, false, .inr ⟨rfl, rfl, rfl, rfl, fun p' u' l' ho ht => hF ?_⟩, fun w hW hS hM => parseFn_walk s _ p1 _ _ r1 r2 c1 c2 cb _ false w hW hS hM k1 k2 k3 k4 k5 k6 (by
      by_cases h : fOkB (p1 : Int) (tinP c1 : Int) (tinP c2 : Int) = true
      · rw [decide_eq_false (fun e => hF ⟨h, e⟩), Bool.and_false]
      · rw [Bool.not_eq_true] at h; rw [h, Bool.false_and])⟩
    obtain ⟨a, b, c, ha, hb, hc, rfl, rfl, rfl⟩ := fOk_out ho
    rw [fT_yes a b c ho] at ht
    have hr := readFn_text ha hb hc
    rw [ht, hR] at hr
    simp only [Prod.mk.injEq] at hr
    obtain ⟨e1, e2, e3⟩ := hr
    rw [e1, e2, e3]
    have c1_ : ((a + 1 : Nat) : Int) = (a : Int) + 1 := by omega
    have c2_ : ((b + 1 : Nat) : Int) = (b : Int) + 1 := by omega
    have c3_ : ((c + 1 : Nat) : Int) = (c : Int) + 1 := by omega
    rw [c1_, c2_, c3_]
    exact ⟨ho, by rw [fT_yes a b c ho]; exact ht⟩
/-- A sentence is of one finding at most. -/
theorem fT_inj {p u l p' u' l' : Int} (h : fOkB p u l = true) (h' : fOkB p' u' l' = true) (e : fT p u l = fT p' u' l') : p = p' ∧ u = u' ∧ l = l' := by
  obtain ⟨a, b, c, ha, hb, hc, rfl, rfl, rfl⟩ := fOk_out h
  obtain ⟨a', b', c', ha', hb', hc', rfl, rfl, rfl⟩ := fOk_out h'
  rw [fT_yes a b c h, fT_yes a' b' c' h'] at e
  have r1 := readFn_text ha hb hc
  rw [e, readFn_text ha' hb' hc'] at r1
  simp only [Prod.mk.injEq] at r1
  omega
set_option linter.unusedSimpArgs false in
set_option maxRecDepth 100000 in
set_option maxHeartbeats 8000000 in
theorem parseFnS_loop (s : ByteArray) (P U L : Int) (ok : Bool) (w : World) (hP : ok = true → (1 ≤ P ∧ P ≤ 3) ∧ (1 ≤ U ∧ U ≤ 9) ∧ (1 ≤ L ∧ L ≤ 9)) (hZ : ok = false → P = 0 ∧ U = 0 ∧ L = 0)
    (hH : ∀ p u l : Int, (fOkB p u l && decide (fT p u l = s)) = (ok && decide (p = P ∧ u = U ∧ l = L))) :
    Calls Tryd.prog 37 #[.string s] w fun e w' => e = .returned (.tuple #[.agg #[.int .i64 P, .int .i64 U, .int .i64 L], .bool ok]) ∧ Below w.heap.size w w' := by
  have HH := Lib.hid hH
  have HP := Lib.hid hP
  have HZ := Lib.hid hZ
  have R0 := Lib.hid (BoxF.new w [.int .i64 0, .int .i64 0, .int .i64 0] 52)
  have B0 := Lib.hid ((Below.refl _ w).alloc (Nat.le_refl _) (.cells #[.int .i64 0, .int .i64 0, .int .i64 0] 52 (0, 0)))
  clear hH hP hZ
  go_enter Tryd.func37, Tryd.ntmps37
  go_wp2_with fail
  go_loopw [4] (fun x wr => ∃ p : Nat, 1 ≤ p ∧ p ≤ 4 ∧ x = .int .i64 (p : Int) ∧ Hid (ok = true → (p : Int) ≤ P) ∧ Hid (BoxF wr w.heap.size [.int .i64 0, .int .i64 0, .int .i64 0] 52 ∧ Below w.heap.size w wr)) (fun x _ => 5 - (Lib.intOf x).toNat)
  case atStart => exact ⟨1, by omega, by omega, rfl, Lib.hid (fun h => (HP.out h).1.1), Lib.hid ⟨R0.out, B0.out⟩⟩
  case round =>
    obtain ⟨p, hp1, hp4, rfl, HI, HK⟩ := hrel
    by_cases hlt : p < 4
    · have e1 : decide ((p : Int) ≤ 3) = true := decide_eq_true (by omega)
      clear R0 B0
      go_wp2_with fail
      go_loopw [5] (fun x wr => ∃ u : Nat, 1 ≤ u ∧ u ≤ 10 ∧ x = .int .i64 (u : Int) ∧ Hid (ok = true → (p : Int) = P → (u : Int) ≤ U) ∧ Hid (BoxF wr w.heap.size [.int .i64 0, .int .i64 0, .int .i64 0] 52 ∧ Below w.heap.size w wr)) (fun x _ => 11 - (Lib.intOf x).toNat)
      case atStart => exact ⟨1, by omega, by omega, rfl, Lib.hid (fun h _ => (HP.out h).2.1.1), HK⟩
      case round =>
        obtain ⟨u, hu1, hu10, rfl, HJ, HL⟩ := hrel
        clear HK
        by_cases hlu : u < 10
        · have e2 : decide ((u : Int) ≤ 9) = true := decide_eq_true (by omega)
          go_wp2_with fail
          go_loopw [6] (fun x wr => ∃ l : Nat, 1 ≤ l ∧ l ≤ 10 ∧ x = .int .i64 (l : Int) ∧ Hid (ok = true → (p : Int) = P → (u : Int) = U → (l : Int) ≤ L) ∧ Hid (BoxF wr w.heap.size [.int .i64 0, .int .i64 0, .int .i64 0] 52 ∧ Below w.heap.size w wr)) (fun x _ => 11 - (Lib.intOf x).toNat)
          case atStart => exact ⟨1, by omega, by omega, rfl, Lib.hid (fun h _ _ => (HP.out h).2.2.1), HL⟩
          case round =>
            obtain ⟨l, hl1, hl10, rfl, HN, HM⟩ := hrel
            clear HL
            by_cases hll : l < 10
            · have e3 : decide ((l : Int) ≤ 9) = true := decide_eq_true (by omega)
              have ct := fun W => findTextS_any (p : Int) (u : Int) (l : Int) W
              have hh := HH.out (p : Int) (u : Int) (l : Int)
              have bx := Lib.hid (HM.out.1.alloc (.cells #[.int .i64 (p : Int), .int .i64 (u : Int), .int .i64 (l : Int)] 52 (0, 0)))
              have bb := Lib.hid (HM.out.2.alloc HM.out.2.size (.cells #[.int .i64 (p : Int), .int .i64 (u : Int), .int .i64 (l : Int)] 52 (0, 0)))
              have by_ := Lib.hid (BoxF.new wr [.int .i64 (p : Int), .int .i64 (u : Int), .int .i64 (l : Int)] 52)
              clear HM
              obtain ⟨o, ho⟩ : ∃ o, fOkB (p : Int) (u : Int) (l : Int) = o := ⟨_, rfl⟩
              obtain ⟨t, ht⟩ : ∃ t, fT (p : Int) (u : Int) (l : Int) = t := ⟨_, rfl⟩
              rw [ho, ht] at ct hh
              clear ho ht
              have CT := Lib.hid ct
              have HHH := Lib.hid hh
              clear ct hh
              cases o
              · have hno := Lib.hid (show ¬ (ok = true ∧ (p : Int) = P ∧ (u : Int) = U ∧ (l : Int) = L) from fun ⟨h1, h2⟩ => by
                  have h3 := HHH.out
                  rw [h1, decide_eq_true h2] at h3
                  simp at h3)
                go_wp2_with fail
                refine (CT.out _).mono ?_
                rintro e w6 ⟨rfl, h6⟩
                have bx6 := Lib.hid (bx.out.below h6)
                have bb6 := Lib.hid (bb.out.trans (h6.mono bb.out.size))
                clear h6 bx bb by_
                go_wp2_with fail
                go_roundw
                case rel => exact ⟨l + 1, by omega, by omega, by go_num, Lib.hid (fun h1 h2 h3 => by have h4 := HN.out h1 h2 h3; have h5 := hno.out; have : (l : Int) ≠ L := fun e => h5 ⟨h1, h2, h3, e⟩; omega), Lib.hid ⟨bx6.out, bb6.out⟩⟩
                case measure => simp [Lib.intOf]; omega
              · by_cases hts : t = s
                · subst hts
                  have hyes := Lib.hid (show ok = true ∧ (p : Int) = P ∧ (u : Int) = U ∧ (l : Int) = L from by
                    have h3 := HHH.out
                    simpa using h3)
                  go_wp2_with fail
                  refine (CT.out _).mono ?_
                  rintro e w6 ⟨rfl, h6⟩
                  have bx6 := bx.out.below h6
                  have by6 := by_.out.below h6
                  have bb6 := Lib.hid (bb.out.trans (h6.mono bb.out.size))
                  obtain ⟨y0, y1, y2, yf⟩ := bx6.three
                  obtain ⟨z0, z1, z2, zf⟩ := by6.three
                  clear h6 bx bb by_ bx6 by6
                  go_wp2_with fail
                  obtain ⟨e4, e5, e6, e7⟩ := hyes.out
                  subst e4
                  rw [← e5, ← e6, ← e7]
                  exact bodyPost_ret (v := .tuple #[.agg #[.int .i64 (p : Int), .int .i64 (u : Int), .int .i64 (l : Int)], .bool true]) (by simp [results, Tryd.results37, go_sem, y0, y1, y2]) rfl ⟨rfl, bb6.out.grown (grown3 w6 w.heap.size _ _ _) bb6.out.size (fun k hk => by cases hk; exact Nat.le_refl _)⟩
                · have hne := str_ne hts
                  have hno := Lib.hid (show ¬ (ok = true ∧ (p : Int) = P ∧ (u : Int) = U ∧ (l : Int) = L) from fun ⟨h1, h2⟩ => by
                    have h3 := HHH.out
                    rw [h1, decide_eq_true h2, decide_eq_false hts] at h3
                    simp at h3)
                  clear hts
                  go_wp2_with fail
                  refine (CT.out _).mono ?_
                  rintro e w6 ⟨rfl, h6⟩
                  have bx6 := Lib.hid (bx.out.below h6)
                  have bb6 := Lib.hid (bb.out.trans (h6.mono bb.out.size))
                  clear h6 bx bb by_
                  go_wp2_with fail
                  go_roundw
                  case rel => exact ⟨l + 1, by omega, by omega, by go_num, Lib.hid (fun h1 h2 h3 => by have h4 := HN.out h1 h2 h3; have h5 := hno.out; have : (l : Int) ≠ L := fun e => h5 ⟨h1, h2, h3, e⟩; omega), Lib.hid ⟨bx6.out, bb6.out⟩⟩
                  case measure => simp [Lib.intOf]; omega
            · obtain rfl : l = 10 := by omega
              go_wp2_with fail
              go_roundw
              case rel => exact ⟨u + 1, by omega, by omega, by go_num, Lib.hid (fun h1 h2 => by have h4 := HJ.out h1 h2; have h5 := HN.out h1 h2; have h6 := (HP.out h1).2.2.2; have : (u : Int) ≠ U := (fun e => by have := h5 e; omega); omega), HM⟩
              case measure => simp [Lib.intOf]; omega
        · obtain rfl : u = 10 := by omega
          go_wp2_with fail
          go_roundw
          case rel => exact ⟨p + 1, by omega, by omega, by go_num, Lib.hid (fun h1 => by have h4 := HI.out h1; have h5 := HJ.out h1; have h6 := (HP.out h1).2.1.2; have : (p : Int) ≠ P := (fun e => by have := h5 e; omega); omega), HL⟩
          case measure => simp [Lib.intOf]; omega
    · obtain rfl : p = 4 := by omega
      have hok : ok = false := by
        rcases Bool.eq_false_or_eq_true ok with h | h
        · have h1 := HI.out h
          have h2 := (HP.out h).1.2
          omega
        · exact h
      subst hok
      obtain ⟨rfl, rfl, rfl⟩ := HZ.out rfl
      obtain ⟨y0, y1, y2, yf⟩ := HK.out.1.three
      go_wp2_with fail
      exact bodyPost_ret (v := .tuple #[.agg #[.int .i64 0, .int .i64 0, .int .i64 0], .bool false]) (by simp [results, Tryd.results37, go_sem, y0, y1, y2]) rfl ⟨rfl, HK.out.2.grown (grown3 wr w.heap.size _ _ _) HK.out.2.size (fun k hk => by cases hk; exact Nat.le_refl _)⟩
theorem parseFn_spec (s : ByteArray) {p u l : Int} {ok : Bool} (h : PFn s p u l ok) (w : World) :
    Calls Tryd.prog 37 #[.string s] w fun e w' => e = .returned (.tuple #[.agg #[.int .i64 p, .int .i64 u, .int .i64 l], .bool ok]) ∧ Below w.heap.size w w' := by
  rcases h with ⟨rfl, ho, ht⟩ | ⟨rfl, rfl, rfl, rfl, hn⟩
  · refine parseFnS_loop s p u l true w (fun _ => ?_) (fun h => by cases h) (fun p' u' l' => ?_)
    · obtain ⟨a, b, c, ha, hb, hc, rfl, rfl, rfl⟩ := fOk_out ho
      omega
    · by_cases h : fOkB p' u' l' = true ∧ fT p' u' l' = s
      · have e := fT_inj h.1 ho (h.2.trans ht.symm)
        rw [h.1, decide_eq_true h.2, decide_eq_true e] <;> rfl
      · have e : ¬ (p' = p ∧ u' = u ∧ l' = l) := fun ⟨e1, e2, e3⟩ => h (by subst e1; subst e2; subst e3; exact ⟨ho, ht⟩)
        rw [decide_eq_false e]
        by_cases h1 : fOkB p' u' l' = true
        · rw [h1, decide_eq_false (fun q => h ⟨h1, q⟩)] <;> rfl
        · rw [Bool.not_eq_true] at h1; rw [h1] <;> rfl
  · refine parseFnS_loop s 0 0 0 false w (fun h => by cases h) (fun _ => ⟨rfl, rfl, rfl⟩) (fun p' u' l' => ?_)
    by_cases h1 : fOkB p' u' l' = true
    · rw [h1, decide_eq_false (hn p' u' l' h1)] <;> rfl
    · rw [Bool.not_eq_true] at h1; rw [h1] <;> rfl
end Go.Proofs.YtgoelkgdjnhklaaDoor
