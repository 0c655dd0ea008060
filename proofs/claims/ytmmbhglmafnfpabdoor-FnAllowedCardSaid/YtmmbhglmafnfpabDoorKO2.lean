/- Several small texts in one: DrawArms, DrawArms2. -/
import Derived.Test.YtmmbhglmafnfpabDoorK1
import Derived.Test.YtmmbhglmafnfpabDoorK2
import Derived.Test.YtmmbhglmafnfpabDoorKO1
import Derived.Test.YtmmbhglmafnfpabDoorKM
namespace Go.Proofs.YtmmbhglmafnfpabDoor
open Go.RowKit

def DrewArms (w : World) (B p : Nat) (x : Option Addr) (n cap M : Nat) (e : Ending) (w' : World) : Prop :=
  (∃ x0 x1 x2 x3 x4 x5 x6 x7 x8 x9 x10 x11 x12 x13 x14 : Int, e = .returned (.agg #[.int .i64 x0, .int .i64 x1, .int .i64 x2, .int .i64 x3, .int .i64 x4, .int .i64 x5, .int .i64 x6, .int .i64 x7, .int .i64 x8, .int .i64 x9, .int .i64 x10, .int .i64 x11, .int .i64 x12, .int .i64 x13, .int .i64 x14])) ∧ IsCur w' B p x n cap M ∧ w.grownBy w' (some p)
/-- The same, and the arms are valid. -/
def DrewArmsV (w : World) (B p : Nat) (x : Option Addr) (n cap M : Nat) (e : Ending) (w' : World) : Prop :=
  (∃ x0 x1 x2 x3 x4 x5 x6 x7 x8 x9 x10 x11 x12 x13 x14 : Int, e = .returned (.agg #[.int .i64 x0, .int .i64 x1, .int .i64 x2, .int .i64 x3, .int .i64 x4, .int .i64 x5, .int .i64 x6, .int .i64 x7, .int .i64 x8, .int .i64 x9, .int .i64 x10, .int .i64 x11, .int .i64 x12, .int .i64 x13, .int .i64 x14]) ∧ aOkB x0 x1 x2 x3 x4 x5 x6 x7 x8 x9 x10 x11 x12 x13 x14 = true) ∧ IsCur w' B p x n cap M ∧ w.grownBy w' (some p)
theorem aOk_in0 {d l f s c k a t : Int} (hF : FOk d l f s) (hA : gNoB c k a t = true ∨ gOkB c k a t = true) : aOkB d l f s 0 0 0 0 0 0 0 c k a t = true := by
  have e : (gNoB c k a t || gOkB c k a t) = true := by rcases hA with h | h <;> rw [h] <;> simp
  unfold aOkB
  rw [e, decide_eq_true hF]
  decide
theorem aOk_in1 {d l f s o n x c k a t c' k' a' t' : Int} (hF : FOk d l f s) (ho : 1 ≤ o ∧ o ≤ 7) (hn : 0 ≤ n ∧ n ≤ 4) (hx : 1 ≤ x ∧ x ≤ 9) (hg : gNoB c k a t = true ∨ gOkB c k a t = true) (hA : gNoB c' k' a' t' = true ∨ gOkB c' k' a' t' = true) : aOkB d l f s o n x c k a t c' k' a' t' = true := by
  unfold aOkB
  rw [if_neg (by omega)]
  simp only [Bool.and_eq_true, decide_eq_true_eq, Bool.or_eq_true]
  exact ⟨hF, ⟨by omega, by omega⟩, hA, hn, hx, hg⟩
theorem sets_grown {b : Nat} : ∀ (vs : List Value) (i : Nat) (W : World), W.grownBy (sets W b i vs) (some b)
  | [], _, W => grownBy_refl W _
  | v :: r, i, W => (grownBy_set W b i v).trans (sets_grown r (i + 1) _)
theorem setc_grown (W : World) (b : Nat) (L : List Value) : W.grownBy (W.setCells b 0 L) (some b) := by rw [setCells_sets]; exact sets_grown L 0 W
set_option maxRecDepth 100000 in
set_option maxHeartbeats 20000000 in
theorem arms_ok (B p : Nat) (x : Option Addr) (n cap M : Nat) (w : World) (h : IsCur w B p x n cap M) (hM : M ≤ 800000) (hn : n ≤ 65536) :
    Calls Tryd.prog 73 #[.pointer (some ⟨p, 0, none⟩)] w (DrewArmsV w B p x n cap (M + 100)) := by
  have hpw := h.lt
  have HC0 := Lib.hid (h.alloc (.cells #[.int .i64 0, .int .i64 0, .int .i64 0, .int .i64 0, .int .i64 0, .int .i64 0, .int .i64 0, .int .i64 0, .int .i64 0, .int .i64 0, .int .i64 0, .int .i64 0, .int .i64 0, .int .i64 0, .int .i64 0] 29 (0, 0)))
  have XR0 := Lib.hid (BoxF.new w [.int .i64 0, .int .i64 0, .int .i64 0, .int .i64 0, .int .i64 0, .int .i64 0, .int .i64 0, .int .i64 0, .int .i64 0, .int .i64 0, .int .i64 0, .int .i64 0, .int .i64 0, .int .i64 0, .int .i64 0] 29)
  have G0 := Lib.hid (World.grownBy_alloc w (.cells #[.int .i64 0, .int .i64 0, .int .i64 0, .int .i64 0, .int .i64 0, .int .i64 0, .int .i64 0, .int .i64 0, .int .i64 0, .int .i64 0, .int .i64 0, .int .i64 0, .int .i64 0, .int .i64 0, .int .i64 0] 29 (0, 0)) (some p))
  obtain ⟨R, hRe⟩ : ∃ R, w.heap.size = R := ⟨_, rfl⟩
  have hR : w.heap.size ≤ R := by omega
  rw [hRe] at XR0
  clear h
  go_enter Tryd.func73, Tryd.ntmps73
  go_wp2_with fail
  refine (field_any B p x n cap _ _ HC0.out (by omega) hn).mono ?_
  rintro e w1 ⟨⟨d, l, f, s, rfl, hF⟩, hc, hg⟩
  have XA1 := BoxF.new w1 [.int .i64 d, .int .i64 l, .int .i64 f, .int .i64 s, .int .i64 0, .int .i64 0, .int .i64 0, .int .i64 0, .int .i64 0, .int .i64 0, .int .i64 0, .int .i64 0, .int .i64 0, .int .i64 0, .int .i64 0] 29
  have HC1 := Lib.hid (hc.alloc (.cells #[.int .i64 d, .int .i64 l, .int .i64 f, .int .i64 s, .int .i64 0, .int .i64 0, .int .i64 0, .int .i64 0, .int .i64 0, .int .i64 0, .int .i64 0, .int .i64 0, .int .i64 0, .int .i64 0, .int .i64 0] 29 (0, 0)))
  have XR1 := Lib.hid ((XR0.out.kept hg (by first | (simp; done) | (simp; omega))).alloc (.cells #[.int .i64 d, .int .i64 l, .int .i64 f, .int .i64 s, .int .i64 0, .int .i64 0, .int .i64 0, .int .i64 0, .int .i64 0, .int .i64 0, .int .i64 0, .int .i64 0, .int .i64 0, .int .i64 0, .int .i64 0] 29 (0, 0)))
  have G1 := Lib.hid ((G0.out.trans hg).trans (World.grownBy_alloc w1 (.cells #[.int .i64 d, .int .i64 l, .int .i64 f, .int .i64 s, .int .i64 0, .int .i64 0, .int .i64 0, .int .i64 0, .int .i64 0, .int .i64 0, .int .i64 0, .int .i64 0, .int .i64 0, .int .i64 0, .int .i64 0] 29 (0, 0)) (some p)))
  have hz := hg.size
  have hrl := XR0.out.lt
  clear hc hg HC0 XR0 G0
  go_wp2_with fail
  obtain ⟨D, hDe⟩ : ∃ D, w1.heap.size = D := ⟨_, rfl⟩
  have hD : w.heap.size ≤ D := by omega
  have hRD : R ≠ D := by omega
  rw [hDe] at XA1 ⊢
  have XA1 := Lib.hid XA1
  clear hz hrl hDe
  generalize w1.alloc (.cells #[.int .i64 d, .int .i64 l, .int .i64 f, .int .i64 s, .int .i64 0, .int .i64 0, .int .i64 0, .int .i64 0, .int .i64 0, .int .i64 0, .int .i64 0, .int .i64 0, .int .i64 0, .int .i64 0, .int .i64 0] 29 (0, 0)) = W1 at *
  have QF := Lib.hid hF
  clear hF
  with_reducible refine (one_any B p x n cap _ _ HC1.out (by omega) hn 3 (by omega) (by omega)).mono ?_
  rintro e w2 ⟨⟨b, rfl⟩, hc, hg⟩
  have HC2 := Lib.hid hc
  have XA2 := Lib.hid (XA1.out.kept hg (by first | (simp; done) | (simp; omega)))
  have XR2 := Lib.hid (XR1.out.kept hg (by first | (simp; done) | (simp; omega)))
  have G2 := Lib.hid (G1.out.trans hg)
  clear hc hg HC1 XA1 XR1 G1
  cases b
  · go_wp2_with fail
    with_reducible refine (pick_any B p x n cap _ _ HC2.out (by omega) hn 7 (by omega) (by omega)).mono ?_
    rintro e w3 ⟨⟨r, rfl, hr0, hr1⟩, hc, hg⟩
    have yw : IntKind.i64.wrap (1 + r) = 1 + r := IntWalk.i64_in _ (by omega)
    have HC3 := Lib.hid hc
    have XA3 := Lib.hid (XA2.out.kept hg (by first | (simp; done) | (simp; omega)))
    have XR3 := Lib.hid (XR2.out.kept hg (by first | (simp; done) | (simp; omega)))
    have G3 := Lib.hid (G2.out.trans hg)
    clear hc hg HC2 XA2 XR2 G2
    have b_ := XA3.out
    obtain ⟨m0, m1, m2, m3, m4, m5, m6, m7, m8, m9, m10, m11, m12, m13, m14, mf⟩ := b_.fifteen
    clear b_
    go_wp2_with fail
    clear m0 m1 m2 m3 m4 m5 m6 m7 m8 m9 m10 m11 m12 m13 m14 mf
    have gs : w3.grownBy (w3.setCell ⟨D, 4, none⟩ (.int .i64 (1 + r))) (some D) := sets_grown [.int .i64 (1 + r)] 4 w3
    have XA4 : Hid (BoxF (w3.setCell ⟨D, 4, none⟩ (.int .i64 (1 + r))) D [.int .i64 d, .int .i64 l, .int .i64 f, .int .i64 s, .int .i64 (1 + r), .int .i64 0, .int .i64 0, .int .i64 0, .int .i64 0, .int .i64 0, .int .i64 0, .int .i64 0, .int .i64 0, .int .i64 0, .int .i64 0] 29) := Lib.hid (sets_box [.int .i64 (1 + r)] 4 XA3.out)
    have XR4 := Lib.hid (XR3.out.kept gs (by first | (simp; done) | (simp; omega)))
    have HC4 := Lib.hid (HC3.out.kept gs (fun k hk => by cases hk; omega))
    have G4 := Lib.hid (grownBy_own G3.out gs (fun k hk => by cases hk; omega))
    clear gs HC3 XA3 XR3 G3
    have hz_ : w3.heap.size = (w3.setCell ⟨D, 4, none⟩ (.int .i64 (1 + r))).heap.size := by simp
    generalize (w3.setCell ⟨D, 4, none⟩ (.int .i64 (1 + r))) = W4 at *
    have QR := Lib.hid (And.intro hr0 hr1)
    clear yw hr0 hr1
    rw [hz_]
    with_reducible refine (among_p B p x n cap _ _ (HC4.out.alloc _) (by omega) hn W4.heap.size 7 7 (fun y => 0 ≤ y ∧ y ≤ 4) (by omega) (by omega) (numRowP_alloc W4 #[.int .i64 (0), .int .i64 (0), .int .i64 (0), .int .i64 (1), .int .i64 (2), .int .i64 (3), .int .i64 (4)] 3 (fun y => 0 ≤ y ∧ y ≤ 4) 7 rfl (by simp [isNumP])) (by have := HC4.out.lt; omega) (by rw [alloc_size]; omega)).mono ?_
    rintro e w5 ⟨⟨ln, rfl, hl_⟩, hc, hg⟩
    have QL := Lib.hid hl_
    clear hl_
    have HC5 := Lib.hid hc
    have XA5 := Lib.hid ((XA4.out.alloc _).kept hg (by first | (simp; done) | (simp; omega)))
    have XR5 := Lib.hid ((XR4.out.alloc _).kept hg (by first | (simp; done) | (simp; omega)))
    have G5 := Lib.hid (G4.out.trans ((World.grownBy_alloc W4 _ _).trans hg))
    clear hc hg HC4 XA4 XR4 G4
    have b_ := XA5.out
    obtain ⟨m0, m1, m2, m3, m4, m5, m6, m7, m8, m9, m10, m11, m12, m13, m14, mf⟩ := b_.fifteen
    clear b_
    go_wp2_with fail
    clear m0 m1 m2 m3 m4 m5 m6 m7 m8 m9 m10 m11 m12 m13 m14 mf
    have gs : w5.grownBy (w5.setCell ⟨D, 5, none⟩ (.int .i64 ln)) (some D) := sets_grown [.int .i64 ln] 5 w5
    have XA6 : Hid (BoxF (w5.setCell ⟨D, 5, none⟩ (.int .i64 ln)) D [.int .i64 d, .int .i64 l, .int .i64 f, .int .i64 s, .int .i64 (1 + r), .int .i64 ln, .int .i64 0, .int .i64 0, .int .i64 0, .int .i64 0, .int .i64 0, .int .i64 0, .int .i64 0, .int .i64 0, .int .i64 0] 29) := Lib.hid (sets_box [.int .i64 ln] 5 XA5.out)
    have XR6 := Lib.hid (XR5.out.kept gs (by first | (simp; done) | (simp; omega)))
    have HC6 := Lib.hid (HC5.out.kept gs (fun k hk => by cases hk; omega))
    have G6 := Lib.hid (grownBy_own G5.out gs (fun k hk => by cases hk; omega))
    clear gs HC5 XA5 XR5 G5
    have hz_ : w5.heap.size = (w5.setCell ⟨D, 5, none⟩ (.int .i64 ln)).heap.size := by simp
    generalize (w5.setCell ⟨D, 5, none⟩ (.int .i64 ln)) = W6 at *
    clear hz_
    with_reducible refine (tincture_any B p x n cap _ _ HC6.out (by omega) hn).mono ?_
    rintro e w7 ⟨⟨tn, rfl, ht_⟩, hc, hg⟩
    have QT := Lib.hid ht_
    clear ht_
    have HC7 := Lib.hid hc
    have XA7 := Lib.hid (XA6.out.kept hg (by first | (simp; done) | (simp; omega)))
    have XR7 := Lib.hid (XR6.out.kept hg (by first | (simp; done) | (simp; omega)))
    have G7 := Lib.hid (G6.out.trans hg)
    clear hc hg HC6 XA6 XR6 G6
    have b_ := XA7.out
    obtain ⟨m0, m1, m2, m3, m4, m5, m6, m7, m8, m9, m10, m11, m12, m13, m14, mf⟩ := b_.fifteen
    clear b_
    go_wp2_with fail
    clear m0 m1 m2 m3 m4 m5 m6 m7 m8 m9 m10 m11 m12 m13 m14 mf
    have gs : w7.grownBy (w7.setCell ⟨D, 6, none⟩ (.int .i64 tn)) (some D) := sets_grown [.int .i64 tn] 6 w7
    have XA8 : Hid (BoxF (w7.setCell ⟨D, 6, none⟩ (.int .i64 tn)) D [.int .i64 d, .int .i64 l, .int .i64 f, .int .i64 s, .int .i64 (1 + r), .int .i64 ln, .int .i64 tn, .int .i64 0, .int .i64 0, .int .i64 0, .int .i64 0, .int .i64 0, .int .i64 0, .int .i64 0, .int .i64 0] 29) := Lib.hid (sets_box [.int .i64 tn] 6 XA7.out)
    have XR8 := Lib.hid (XR7.out.kept gs (by first | (simp; done) | (simp; omega)))
    have HC8 := Lib.hid (HC7.out.kept gs (fun k hk => by cases hk; omega))
    have G8 := Lib.hid (grownBy_own G7.out gs (fun k hk => by cases hk; omega))
    clear gs HC7 XA7 XR7 G7
    have hz_ : w7.heap.size = (w7.setCell ⟨D, 6, none⟩ (.int .i64 tn)).heap.size := by simp
    generalize (w7.setCell ⟨D, 6, none⟩ (.int .i64 tn)) = W8 at *
    clear hz_
    with_reducible refine (one_any B p x n cap _ _ HC8.out (by omega) hn 3 (by omega) (by omega)).mono ?_
    rintro e w9 ⟨⟨b2, rfl⟩, hc, hg⟩
    have HC9 := Lib.hid hc
    have XA9 := Lib.hid (XA8.out.kept hg (by first | (simp; done) | (simp; omega)))
    have XR9 := Lib.hid (XR8.out.kept hg (by first | (simp; done) | (simp; omega)))
    have G9 := Lib.hid (G8.out.trans hg)
    clear hc hg HC8 XA8 XR8 G8
    cases b2
    · go_wp2_with fail
      with_reducible refine (one_any B p x n cap _ _ HC9.out (by omega) hn 3 (by omega) (by omega)).mono ?_
      rintro e w10 ⟨⟨b3, rfl⟩, hc, hg⟩
      have HC10 := Lib.hid hc
      have XA10 := Lib.hid (XA9.out.kept hg (by first | (simp; done) | (simp; omega)))
      have XR10 := Lib.hid (XR9.out.kept hg (by first | (simp; done) | (simp; omega)))
      have G10 := Lib.hid (G9.out.trans hg)
      clear hc hg HC9 XA9 XR9 G9
      cases b3
      · go_wp2_with fail
        with_reducible refine (group_any B p x n cap _ _ HC10.out (by omega) hn).mono ?_
        rintro e w11 ⟨⟨e0, e1, e2, e3, rfl, hF⟩, hc, hg⟩
        have HC11 := Lib.hid hc
        have XA11 := Lib.hid (XA10.out.kept hg (by first | (simp; done) | (simp; omega)))
        have XR11 := Lib.hid (XR10.out.kept hg (by first | (simp; done) | (simp; omega)))
        have G11 := Lib.hid (G10.out.trans hg)
        clear hc hg HC10 XA10 XR10 G10
        have QA := Lib.hid hF
        clear hF
        have b_ := XA11.out
        obtain ⟨m0, m1, m2, m3, m4, m5, m6, m7, m8, m9, m10, m11, m12, m13, m14, mf⟩ := b_.fifteen
        clear b_
        have gs : w11.grownBy ((((w11.setCell ⟨D, 11, none⟩ (.int .i64 e0)).setCell ⟨D, 12, none⟩ (.int .i64 e1)).setCell ⟨D, 13, none⟩ (.int .i64 e2)).setCell ⟨D, 14, none⟩ (.int .i64 e3)) (some D) := sets_grown [.int .i64 e0, .int .i64 e1, .int .i64 e2, .int .i64 e3] 11 w11
        have a_ : BoxF ((((w11.setCell ⟨D, 11, none⟩ (.int .i64 e0)).setCell ⟨D, 12, none⟩ (.int .i64 e1)).setCell ⟨D, 13, none⟩ (.int .i64 e2)).setCell ⟨D, 14, none⟩ (.int .i64 e3)) D [.int .i64 d, .int .i64 l, .int .i64 f, .int .i64 s, .int .i64 (1 + r), .int .i64 ln, .int .i64 tn, .int .i64 0, .int .i64 0, .int .i64 0, .int .i64 0, .int .i64 e0, .int .i64 e1, .int .i64 e2, .int .i64 e3] 29 := sets_box [.int .i64 e0, .int .i64 e1, .int .i64 e2, .int .i64 e3] 11 XA11.out
        have r_ : BoxF ((((w11.setCell ⟨D, 11, none⟩ (.int .i64 e0)).setCell ⟨D, 12, none⟩ (.int .i64 e1)).setCell ⟨D, 13, none⟩ (.int .i64 e2)).setCell ⟨D, 14, none⟩ (.int .i64 e3)) R [.int .i64 0, .int .i64 0, .int .i64 0, .int .i64 0, .int .i64 0, .int .i64 0, .int .i64 0, .int .i64 0, .int .i64 0, .int .i64 0, .int .i64 0, .int .i64 0, .int .i64 0, .int .i64 0, .int .i64 0] 29 := XR11.out.kept gs (by first | (simp; done) | (simp; omega))
        have XR12 := Lib.hid r_
        have HC12 := Lib.hid (HC11.out.kept gs (fun k hk => by cases hk; omega))
        have G12 := Lib.hid (grownBy_own G11.out gs (fun k hk => by cases hk; omega))
        have ra_ := a_.range
        have t_ := r_.ther (n := 15) rfl
        clear a_ r_ gs HC11 XA11 XR11 G11
        go_wp2_with (first | (with_reducible refine isList ?_; refine ld15 3 D [.int .i64 d, .int .i64 l, .int .i64 f, .int .i64 s, .int .i64 (1 + r), .int .i64 ln, .int .i64 tn, .int .i64 0, .int .i64 0, .int .i64 0, .int .i64 0, .int .i64 e0, .int .i64 e1, .int .i64 e2, .int .i64 e3] rfl rfl rfl rfl ?_ ?_; exact ra_) | (with_reducible refine isList ?_; (set_option maxRecDepth 100000 in refine st15 2 32 R [.int .i64 d, .int .i64 l, .int .i64 f, .int .i64 s, .int .i64 (1 + r), .int .i64 ln, .int .i64 tn, .int .i64 0, .int .i64 0, .int .i64 0, .int .i64 0, .int .i64 e0, .int .i64 e1, .int .i64 e2, .int .i64 e3] rfl rfl rfl rfl rfl ?_ ?_ ?_); exact t_; simp [Value.oneCell']))
        clear m0 m1 m2 m3 m4 m5 m6 m7 m8 m9 m10 m11 m12 m13 m14 mf ra_ t_
        generalize ((((w11.setCell ⟨D, 11, none⟩ (.int .i64 e0)).setCell ⟨D, 12, none⟩ (.int .i64 e1)).setCell ⟨D, 13, none⟩ (.int .i64 e2)).setCell ⟨D, 14, none⟩ (.int .i64 e3)) = W12 at *
        obtain ⟨WE, hWE⟩ : ∃ X, X = W12.setCells R 0 [.int .i64 d, .int .i64 l, .int .i64 f, .int .i64 s, .int .i64 (1 + r), .int .i64 ln, .int .i64 tn, .int .i64 0, .int .i64 0, .int .i64 0, .int .i64 0, .int .i64 e0, .int .i64 e1, .int .i64 e2, .int .i64 e3] := ⟨_, rfl⟩
        have BR : BoxF WE R [.int .i64 d, .int .i64 l, .int .i64 f, .int .i64 s, .int .i64 (1 + r), .int .i64 ln, .int .i64 tn, .int .i64 0, .int .i64 0, .int .i64 0, .int .i64 0, .int .i64 e0, .int .i64 e1, .int .i64 e2, .int .i64 e3] 29 := by rw [hWE]; exact BoxF.setAll (vs := [.int .i64 d, .int .i64 l, .int .i64 f, .int .i64 s, .int .i64 (1 + r), .int .i64 ln, .int .i64 tn, .int .i64 0, .int .i64 0, .int .i64 0, .int .i64 0, .int .i64 e0, .int .i64 e1, .int .i64 e2, .int .i64 e3]) XR12.out
        have g_ : W12.grownBy WE (some R) := by rw [hWE]; exact setc_grown W12 R [.int .i64 d, .int .i64 l, .int .i64 f, .int .i64 s, .int .i64 (1 + r), .int .i64 ln, .int .i64 tn, .int .i64 0, .int .i64 0, .int .i64 0, .int .i64 0, .int .i64 e0, .int .i64 e1, .int .i64 e2, .int .i64 e3]
        have HCe := (HC12.out.mono (M' := M + 100) (by omega)).kept g_ (fun k hk => by cases hk; omega)
        have Ge := grownBy_own G12.out g_ (fun k hk => by cases hk; omega)
        rw [← hWE]
        clear g_ hWE
        obtain ⟨z0, z1, z2, z3, z4, z5, z6, z7, z8, z9, z10, z11, z12, z13, z14, zf⟩ := BR.fifteen
        exact bodyPost_ret (v := .agg #[.int .i64 d, .int .i64 l, .int .i64 f, .int .i64 s, .int .i64 (1 + r), .int .i64 ln, .int .i64 tn, .int .i64 0, .int .i64 0, .int .i64 0, .int .i64 0, .int .i64 e0, .int .i64 e1, .int .i64 e2, .int .i64 e3]) (by simp [results, Tryd.results73, go_sem, z0, z1, z2, z3, z4, z5, z6, z7, z8, z9, z10, z11, z12, z13, z14]) rfl ⟨⟨_, _, _, _, _, _, _, _, _, _, _, _, _, _, _, rfl, aOk_in1 QF.out ⟨by have := QR.out; omega, by have := QR.out; omega⟩ QL.out QT.out (.inl rfl) (.inr QA.out)⟩, HCe, Ge⟩
      · have ra_ := XA10.out.range
        have t_ := XR10.out.ther (n := 15) rfl
        go_wp2_with (first | (with_reducible refine isList ?_; refine ld15 3 D [.int .i64 d, .int .i64 l, .int .i64 f, .int .i64 s, .int .i64 (1 + r), .int .i64 ln, .int .i64 tn, .int .i64 0, .int .i64 0, .int .i64 0, .int .i64 0, .int .i64 0, .int .i64 0, .int .i64 0, .int .i64 0] rfl rfl rfl rfl ?_ ?_; exact ra_) | (with_reducible refine isList ?_; (set_option maxRecDepth 100000 in refine st15 2 32 R [.int .i64 d, .int .i64 l, .int .i64 f, .int .i64 s, .int .i64 (1 + r), .int .i64 ln, .int .i64 tn, .int .i64 0, .int .i64 0, .int .i64 0, .int .i64 0, .int .i64 0, .int .i64 0, .int .i64 0, .int .i64 0] rfl rfl rfl rfl rfl ?_ ?_ ?_); exact t_; simp [Value.oneCell']))
        clear ra_ t_
        obtain ⟨WE, hWE⟩ : ∃ X, X = w10.setCells R 0 [.int .i64 d, .int .i64 l, .int .i64 f, .int .i64 s, .int .i64 (1 + r), .int .i64 ln, .int .i64 tn, .int .i64 0, .int .i64 0, .int .i64 0, .int .i64 0, .int .i64 0, .int .i64 0, .int .i64 0, .int .i64 0] := ⟨_, rfl⟩
        have BR : BoxF WE R [.int .i64 d, .int .i64 l, .int .i64 f, .int .i64 s, .int .i64 (1 + r), .int .i64 ln, .int .i64 tn, .int .i64 0, .int .i64 0, .int .i64 0, .int .i64 0, .int .i64 0, .int .i64 0, .int .i64 0, .int .i64 0] 29 := by rw [hWE]; exact BoxF.setAll (vs := [.int .i64 d, .int .i64 l, .int .i64 f, .int .i64 s, .int .i64 (1 + r), .int .i64 ln, .int .i64 tn, .int .i64 0, .int .i64 0, .int .i64 0, .int .i64 0, .int .i64 0, .int .i64 0, .int .i64 0, .int .i64 0]) XR10.out
        have g_ : w10.grownBy WE (some R) := by rw [hWE]; exact setc_grown w10 R [.int .i64 d, .int .i64 l, .int .i64 f, .int .i64 s, .int .i64 (1 + r), .int .i64 ln, .int .i64 tn, .int .i64 0, .int .i64 0, .int .i64 0, .int .i64 0, .int .i64 0, .int .i64 0, .int .i64 0, .int .i64 0]
        have HCe := (HC10.out.mono (M' := M + 100) (by omega)).kept g_ (fun k hk => by cases hk; omega)
        have Ge := grownBy_own G10.out g_ (fun k hk => by cases hk; omega)
        rw [← hWE]
        clear g_ hWE
        obtain ⟨z0, z1, z2, z3, z4, z5, z6, z7, z8, z9, z10, z11, z12, z13, z14, zf⟩ := BR.fifteen
        exact bodyPost_ret (v := .agg #[.int .i64 d, .int .i64 l, .int .i64 f, .int .i64 s, .int .i64 (1 + r), .int .i64 ln, .int .i64 tn, .int .i64 0, .int .i64 0, .int .i64 0, .int .i64 0, .int .i64 0, .int .i64 0, .int .i64 0, .int .i64 0]) (by simp [results, Tryd.results73, go_sem, z0, z1, z2, z3, z4, z5, z6, z7, z8, z9, z10, z11, z12, z13, z14]) rfl ⟨⟨_, _, _, _, _, _, _, _, _, _, _, _, _, _, _, rfl, aOk_in1 QF.out ⟨by have := QR.out; omega, by have := QR.out; omega⟩ QL.out QT.out (.inl rfl) (.inl rfl)⟩, HCe, Ge⟩
    · go_wp2_with fail
      with_reducible refine (group_any B p x n cap _ _ HC9.out (by omega) hn).mono ?_
      rintro e w10 ⟨⟨c, k, a, t, rfl, hF⟩, hc, hg⟩
      have HC10 := Lib.hid hc
      have XA10 := Lib.hid (XA9.out.kept hg (by first | (simp; done) | (simp; omega)))
      have XR10 := Lib.hid (XR9.out.kept hg (by first | (simp; done) | (simp; omega)))
      have G10 := Lib.hid (G9.out.trans hg)
      clear hc hg HC9 XA9 XR9 G9
      have QG := Lib.hid hF
      clear hF
      have b_ := XA10.out
      obtain ⟨m0, m1, m2, m3, m4, m5, m6, m7, m8, m9, m10, m11, m12, m13, m14, mf⟩ := b_.fifteen
      clear b_
      go_wp2_with fail
      clear m0 m1 m2 m3 m4 m5 m6 m7 m8 m9 m10 m11 m12 m13 m14 mf
      have gs : w10.grownBy ((((w10.setCell ⟨D, 7, none⟩ (.int .i64 c)).setCell ⟨D, 8, none⟩ (.int .i64 k)).setCell ⟨D, 9, none⟩ (.int .i64 a)).setCell ⟨D, 10, none⟩ (.int .i64 t)) (some D) := sets_grown [.int .i64 c, .int .i64 k, .int .i64 a, .int .i64 t] 7 w10
      have XA11 : Hid (BoxF ((((w10.setCell ⟨D, 7, none⟩ (.int .i64 c)).setCell ⟨D, 8, none⟩ (.int .i64 k)).setCell ⟨D, 9, none⟩ (.int .i64 a)).setCell ⟨D, 10, none⟩ (.int .i64 t)) D [.int .i64 d, .int .i64 l, .int .i64 f, .int .i64 s, .int .i64 (1 + r), .int .i64 ln, .int .i64 tn, .int .i64 c, .int .i64 k, .int .i64 a, .int .i64 t, .int .i64 0, .int .i64 0, .int .i64 0, .int .i64 0] 29) := Lib.hid (sets_box [.int .i64 c, .int .i64 k, .int .i64 a, .int .i64 t] 7 XA10.out)
      have XR11 := Lib.hid (XR10.out.kept gs (by first | (simp; done) | (simp; omega)))
      have HC11 := Lib.hid (HC10.out.kept gs (fun k hk => by cases hk; omega))
      have G11 := Lib.hid (grownBy_own G10.out gs (fun k hk => by cases hk; omega))
      clear gs HC10 XA10 XR10 G10
      have hz_ : w10.heap.size = ((((w10.setCell ⟨D, 7, none⟩ (.int .i64 c)).setCell ⟨D, 8, none⟩ (.int .i64 k)).setCell ⟨D, 9, none⟩ (.int .i64 a)).setCell ⟨D, 10, none⟩ (.int .i64 t)).heap.size := by simp
      generalize ((((w10.setCell ⟨D, 7, none⟩ (.int .i64 c)).setCell ⟨D, 8, none⟩ (.int .i64 k)).setCell ⟨D, 9, none⟩ (.int .i64 a)).setCell ⟨D, 10, none⟩ (.int .i64 t)) = W11 at *
      clear hz_
      with_reducible refine (one_any B p x n cap _ _ HC11.out (by omega) hn 3 (by omega) (by omega)).mono ?_
      rintro e w12 ⟨⟨b3, rfl⟩, hc, hg⟩
      have HC12 := Lib.hid hc
      have XA12 := Lib.hid (XA11.out.kept hg (by first | (simp; done) | (simp; omega)))
      have XR12 := Lib.hid (XR11.out.kept hg (by first | (simp; done) | (simp; omega)))
      have G12 := Lib.hid (G11.out.trans hg)
      clear hc hg HC11 XA11 XR11 G11
      cases b3
      · go_wp2_with fail
        with_reducible refine (group_any B p x n cap _ _ HC12.out (by omega) hn).mono ?_
        rintro e w13 ⟨⟨e0, e1, e2, e3, rfl, hF⟩, hc, hg⟩
        have HC13 := Lib.hid hc
        have XA13 := Lib.hid (XA12.out.kept hg (by first | (simp; done) | (simp; omega)))
        have XR13 := Lib.hid (XR12.out.kept hg (by first | (simp; done) | (simp; omega)))
        have G13 := Lib.hid (G12.out.trans hg)
        clear hc hg HC12 XA12 XR12 G12
        have QA := Lib.hid hF
        clear hF
        have b_ := XA13.out
        obtain ⟨m0, m1, m2, m3, m4, m5, m6, m7, m8, m9, m10, m11, m12, m13, m14, mf⟩ := b_.fifteen
        clear b_
        have gs : w13.grownBy ((((w13.setCell ⟨D, 11, none⟩ (.int .i64 e0)).setCell ⟨D, 12, none⟩ (.int .i64 e1)).setCell ⟨D, 13, none⟩ (.int .i64 e2)).setCell ⟨D, 14, none⟩ (.int .i64 e3)) (some D) := sets_grown [.int .i64 e0, .int .i64 e1, .int .i64 e2, .int .i64 e3] 11 w13
        have a_ : BoxF ((((w13.setCell ⟨D, 11, none⟩ (.int .i64 e0)).setCell ⟨D, 12, none⟩ (.int .i64 e1)).setCell ⟨D, 13, none⟩ (.int .i64 e2)).setCell ⟨D, 14, none⟩ (.int .i64 e3)) D [.int .i64 d, .int .i64 l, .int .i64 f, .int .i64 s, .int .i64 (1 + r), .int .i64 ln, .int .i64 tn, .int .i64 c, .int .i64 k, .int .i64 a, .int .i64 t, .int .i64 e0, .int .i64 e1, .int .i64 e2, .int .i64 e3] 29 := sets_box [.int .i64 e0, .int .i64 e1, .int .i64 e2, .int .i64 e3] 11 XA13.out
        have r_ : BoxF ((((w13.setCell ⟨D, 11, none⟩ (.int .i64 e0)).setCell ⟨D, 12, none⟩ (.int .i64 e1)).setCell ⟨D, 13, none⟩ (.int .i64 e2)).setCell ⟨D, 14, none⟩ (.int .i64 e3)) R [.int .i64 0, .int .i64 0, .int .i64 0, .int .i64 0, .int .i64 0, .int .i64 0, .int .i64 0, .int .i64 0, .int .i64 0, .int .i64 0, .int .i64 0, .int .i64 0, .int .i64 0, .int .i64 0, .int .i64 0] 29 := XR13.out.kept gs (by first | (simp; done) | (simp; omega))
        have XR14 := Lib.hid r_
        have HC14 := Lib.hid (HC13.out.kept gs (fun k hk => by cases hk; omega))
        have G14 := Lib.hid (grownBy_own G13.out gs (fun k hk => by cases hk; omega))
        have ra_ := a_.range
        have t_ := r_.ther (n := 15) rfl
        clear a_ r_ gs HC13 XA13 XR13 G13
        go_wp2_with (first | (with_reducible refine isList ?_; refine ld15 3 D [.int .i64 d, .int .i64 l, .int .i64 f, .int .i64 s, .int .i64 (1 + r), .int .i64 ln, .int .i64 tn, .int .i64 c, .int .i64 k, .int .i64 a, .int .i64 t, .int .i64 e0, .int .i64 e1, .int .i64 e2, .int .i64 e3] rfl rfl rfl rfl ?_ ?_; exact ra_) | (with_reducible refine isList ?_; (set_option maxRecDepth 100000 in refine st15 2 32 R [.int .i64 d, .int .i64 l, .int .i64 f, .int .i64 s, .int .i64 (1 + r), .int .i64 ln, .int .i64 tn, .int .i64 c, .int .i64 k, .int .i64 a, .int .i64 t, .int .i64 e0, .int .i64 e1, .int .i64 e2, .int .i64 e3] rfl rfl rfl rfl rfl ?_ ?_ ?_); exact t_; simp [Value.oneCell']))
        clear m0 m1 m2 m3 m4 m5 m6 m7 m8 m9 m10 m11 m12 m13 m14 mf ra_ t_
        generalize ((((w13.setCell ⟨D, 11, none⟩ (.int .i64 e0)).setCell ⟨D, 12, none⟩ (.int .i64 e1)).setCell ⟨D, 13, none⟩ (.int .i64 e2)).setCell ⟨D, 14, none⟩ (.int .i64 e3)) = W14 at *
        obtain ⟨WE, hWE⟩ : ∃ X, X = W14.setCells R 0 [.int .i64 d, .int .i64 l, .int .i64 f, .int .i64 s, .int .i64 (1 + r), .int .i64 ln, .int .i64 tn, .int .i64 c, .int .i64 k, .int .i64 a, .int .i64 t, .int .i64 e0, .int .i64 e1, .int .i64 e2, .int .i64 e3] := ⟨_, rfl⟩
        have BR : BoxF WE R [.int .i64 d, .int .i64 l, .int .i64 f, .int .i64 s, .int .i64 (1 + r), .int .i64 ln, .int .i64 tn, .int .i64 c, .int .i64 k, .int .i64 a, .int .i64 t, .int .i64 e0, .int .i64 e1, .int .i64 e2, .int .i64 e3] 29 := by rw [hWE]; exact BoxF.setAll (vs := [.int .i64 d, .int .i64 l, .int .i64 f, .int .i64 s, .int .i64 (1 + r), .int .i64 ln, .int .i64 tn, .int .i64 c, .int .i64 k, .int .i64 a, .int .i64 t, .int .i64 e0, .int .i64 e1, .int .i64 e2, .int .i64 e3]) XR14.out
        have g_ : W14.grownBy WE (some R) := by rw [hWE]; exact setc_grown W14 R [.int .i64 d, .int .i64 l, .int .i64 f, .int .i64 s, .int .i64 (1 + r), .int .i64 ln, .int .i64 tn, .int .i64 c, .int .i64 k, .int .i64 a, .int .i64 t, .int .i64 e0, .int .i64 e1, .int .i64 e2, .int .i64 e3]
        have HCe := (HC14.out.mono (M' := M + 100) (by omega)).kept g_ (fun k hk => by cases hk; omega)
        have Ge := grownBy_own G14.out g_ (fun k hk => by cases hk; omega)
        rw [← hWE]
        clear g_ hWE
        obtain ⟨z0, z1, z2, z3, z4, z5, z6, z7, z8, z9, z10, z11, z12, z13, z14, zf⟩ := BR.fifteen
        exact bodyPost_ret (v := .agg #[.int .i64 d, .int .i64 l, .int .i64 f, .int .i64 s, .int .i64 (1 + r), .int .i64 ln, .int .i64 tn, .int .i64 c, .int .i64 k, .int .i64 a, .int .i64 t, .int .i64 e0, .int .i64 e1, .int .i64 e2, .int .i64 e3]) (by simp [results, Tryd.results73, go_sem, z0, z1, z2, z3, z4, z5, z6, z7, z8, z9, z10, z11, z12, z13, z14]) rfl ⟨⟨_, _, _, _, _, _, _, _, _, _, _, _, _, _, _, rfl, aOk_in1 QF.out ⟨by have := QR.out; omega, by have := QR.out; omega⟩ QL.out QT.out (.inr QG.out) (.inr QA.out)⟩, HCe, Ge⟩
      · have ra_ := XA12.out.range
        have t_ := XR12.out.ther (n := 15) rfl
        go_wp2_with (first | (with_reducible refine isList ?_; refine ld15 3 D [.int .i64 d, .int .i64 l, .int .i64 f, .int .i64 s, .int .i64 (1 + r), .int .i64 ln, .int .i64 tn, .int .i64 c, .int .i64 k, .int .i64 a, .int .i64 t, .int .i64 0, .int .i64 0, .int .i64 0, .int .i64 0] rfl rfl rfl rfl ?_ ?_; exact ra_) | (with_reducible refine isList ?_; (set_option maxRecDepth 100000 in refine st15 2 32 R [.int .i64 d, .int .i64 l, .int .i64 f, .int .i64 s, .int .i64 (1 + r), .int .i64 ln, .int .i64 tn, .int .i64 c, .int .i64 k, .int .i64 a, .int .i64 t, .int .i64 0, .int .i64 0, .int .i64 0, .int .i64 0] rfl rfl rfl rfl rfl ?_ ?_ ?_); exact t_; simp [Value.oneCell']))
        clear ra_ t_
        obtain ⟨WE, hWE⟩ : ∃ X, X = w12.setCells R 0 [.int .i64 d, .int .i64 l, .int .i64 f, .int .i64 s, .int .i64 (1 + r), .int .i64 ln, .int .i64 tn, .int .i64 c, .int .i64 k, .int .i64 a, .int .i64 t, .int .i64 0, .int .i64 0, .int .i64 0, .int .i64 0] := ⟨_, rfl⟩
        have BR : BoxF WE R [.int .i64 d, .int .i64 l, .int .i64 f, .int .i64 s, .int .i64 (1 + r), .int .i64 ln, .int .i64 tn, .int .i64 c, .int .i64 k, .int .i64 a, .int .i64 t, .int .i64 0, .int .i64 0, .int .i64 0, .int .i64 0] 29 := by rw [hWE]; exact BoxF.setAll (vs := [.int .i64 d, .int .i64 l, .int .i64 f, .int .i64 s, .int .i64 (1 + r), .int .i64 ln, .int .i64 tn, .int .i64 c, .int .i64 k, .int .i64 a, .int .i64 t, .int .i64 0, .int .i64 0, .int .i64 0, .int .i64 0]) XR12.out
        have g_ : w12.grownBy WE (some R) := by rw [hWE]; exact setc_grown w12 R [.int .i64 d, .int .i64 l, .int .i64 f, .int .i64 s, .int .i64 (1 + r), .int .i64 ln, .int .i64 tn, .int .i64 c, .int .i64 k, .int .i64 a, .int .i64 t, .int .i64 0, .int .i64 0, .int .i64 0, .int .i64 0]
        have HCe := (HC12.out.mono (M' := M + 100) (by omega)).kept g_ (fun k hk => by cases hk; omega)
        have Ge := grownBy_own G12.out g_ (fun k hk => by cases hk; omega)
        rw [← hWE]
        clear g_ hWE
        obtain ⟨z0, z1, z2, z3, z4, z5, z6, z7, z8, z9, z10, z11, z12, z13, z14, zf⟩ := BR.fifteen
        exact bodyPost_ret (v := .agg #[.int .i64 d, .int .i64 l, .int .i64 f, .int .i64 s, .int .i64 (1 + r), .int .i64 ln, .int .i64 tn, .int .i64 c, .int .i64 k, .int .i64 a, .int .i64 t, .int .i64 0, .int .i64 0, .int .i64 0, .int .i64 0]) (by simp [results, Tryd.results73, go_sem, z0, z1, z2, z3, z4, z5, z6, z7, z8, z9, z10, z11, z12, z13, z14]) rfl ⟨⟨_, _, _, _, _, _, _, _, _, _, _, _, _, _, _, rfl, aOk_in1 QF.out ⟨by have := QR.out; omega, by have := QR.out; omega⟩ QL.out QT.out (.inr QG.out) (.inl rfl)⟩, HCe, Ge⟩
  · go_wp2_with fail
    with_reducible refine (one_any B p x n cap _ _ HC2.out (by omega) hn 3 (by omega) (by omega)).mono ?_
    rintro e w3 ⟨⟨b3, rfl⟩, hc, hg⟩
    have HC3 := Lib.hid hc
    have XA3 := Lib.hid (XA2.out.kept hg (by first | (simp; done) | (simp; omega)))
    have XR3 := Lib.hid (XR2.out.kept hg (by first | (simp; done) | (simp; omega)))
    have G3 := Lib.hid (G2.out.trans hg)
    clear hc hg HC2 XA2 XR2 G2
    cases b3
    · go_wp2_with fail
      with_reducible refine (group_any B p x n cap _ _ HC3.out (by omega) hn).mono ?_
      rintro e w4 ⟨⟨e0, e1, e2, e3, rfl, hF⟩, hc, hg⟩
      have HC4 := Lib.hid hc
      have XA4 := Lib.hid (XA3.out.kept hg (by first | (simp; done) | (simp; omega)))
      have XR4 := Lib.hid (XR3.out.kept hg (by first | (simp; done) | (simp; omega)))
      have G4 := Lib.hid (G3.out.trans hg)
      clear hc hg HC3 XA3 XR3 G3
      have QA := Lib.hid hF
      clear hF
      have b_ := XA4.out
      obtain ⟨m0, m1, m2, m3, m4, m5, m6, m7, m8, m9, m10, m11, m12, m13, m14, mf⟩ := b_.fifteen
      clear b_
      have gs : w4.grownBy ((((w4.setCell ⟨D, 11, none⟩ (.int .i64 e0)).setCell ⟨D, 12, none⟩ (.int .i64 e1)).setCell ⟨D, 13, none⟩ (.int .i64 e2)).setCell ⟨D, 14, none⟩ (.int .i64 e3)) (some D) := sets_grown [.int .i64 e0, .int .i64 e1, .int .i64 e2, .int .i64 e3] 11 w4
      have a_ : BoxF ((((w4.setCell ⟨D, 11, none⟩ (.int .i64 e0)).setCell ⟨D, 12, none⟩ (.int .i64 e1)).setCell ⟨D, 13, none⟩ (.int .i64 e2)).setCell ⟨D, 14, none⟩ (.int .i64 e3)) D [.int .i64 d, .int .i64 l, .int .i64 f, .int .i64 s, .int .i64 0, .int .i64 0, .int .i64 0, .int .i64 0, .int .i64 0, .int .i64 0, .int .i64 0, .int .i64 e0, .int .i64 e1, .int .i64 e2, .int .i64 e3] 29 := sets_box [.int .i64 e0, .int .i64 e1, .int .i64 e2, .int .i64 e3] 11 XA4.out
      have r_ : BoxF ((((w4.setCell ⟨D, 11, none⟩ (.int .i64 e0)).setCell ⟨D, 12, none⟩ (.int .i64 e1)).setCell ⟨D, 13, none⟩ (.int .i64 e2)).setCell ⟨D, 14, none⟩ (.int .i64 e3)) R [.int .i64 0, .int .i64 0, .int .i64 0, .int .i64 0, .int .i64 0, .int .i64 0, .int .i64 0, .int .i64 0, .int .i64 0, .int .i64 0, .int .i64 0, .int .i64 0, .int .i64 0, .int .i64 0, .int .i64 0] 29 := XR4.out.kept gs (by first | (simp; done) | (simp; omega))
      have XR5 := Lib.hid r_
      have HC5 := Lib.hid (HC4.out.kept gs (fun k hk => by cases hk; omega))
      have G5 := Lib.hid (grownBy_own G4.out gs (fun k hk => by cases hk; omega))
      have ra_ := a_.range
      have t_ := r_.ther (n := 15) rfl
      clear a_ r_ gs HC4 XA4 XR4 G4
      go_wp2_with (first | (with_reducible refine isList ?_; refine ld15 3 D [.int .i64 d, .int .i64 l, .int .i64 f, .int .i64 s, .int .i64 0, .int .i64 0, .int .i64 0, .int .i64 0, .int .i64 0, .int .i64 0, .int .i64 0, .int .i64 e0, .int .i64 e1, .int .i64 e2, .int .i64 e3] rfl rfl rfl rfl ?_ ?_; exact ra_) | (with_reducible refine isList ?_; (set_option maxRecDepth 100000 in refine st15 2 32 R [.int .i64 d, .int .i64 l, .int .i64 f, .int .i64 s, .int .i64 0, .int .i64 0, .int .i64 0, .int .i64 0, .int .i64 0, .int .i64 0, .int .i64 0, .int .i64 e0, .int .i64 e1, .int .i64 e2, .int .i64 e3] rfl rfl rfl rfl rfl ?_ ?_ ?_); exact t_; simp [Value.oneCell']))
      clear m0 m1 m2 m3 m4 m5 m6 m7 m8 m9 m10 m11 m12 m13 m14 mf ra_ t_
      generalize ((((w4.setCell ⟨D, 11, none⟩ (.int .i64 e0)).setCell ⟨D, 12, none⟩ (.int .i64 e1)).setCell ⟨D, 13, none⟩ (.int .i64 e2)).setCell ⟨D, 14, none⟩ (.int .i64 e3)) = W5 at *
      obtain ⟨WE, hWE⟩ : ∃ X, X = W5.setCells R 0 [.int .i64 d, .int .i64 l, .int .i64 f, .int .i64 s, .int .i64 0, .int .i64 0, .int .i64 0, .int .i64 0, .int .i64 0, .int .i64 0, .int .i64 0, .int .i64 e0, .int .i64 e1, .int .i64 e2, .int .i64 e3] := ⟨_, rfl⟩
      have BR : BoxF WE R [.int .i64 d, .int .i64 l, .int .i64 f, .int .i64 s, .int .i64 0, .int .i64 0, .int .i64 0, .int .i64 0, .int .i64 0, .int .i64 0, .int .i64 0, .int .i64 e0, .int .i64 e1, .int .i64 e2, .int .i64 e3] 29 := by rw [hWE]; exact BoxF.setAll (vs := [.int .i64 d, .int .i64 l, .int .i64 f, .int .i64 s, .int .i64 0, .int .i64 0, .int .i64 0, .int .i64 0, .int .i64 0, .int .i64 0, .int .i64 0, .int .i64 e0, .int .i64 e1, .int .i64 e2, .int .i64 e3]) XR5.out
      have g_ : W5.grownBy WE (some R) := by rw [hWE]; exact setc_grown W5 R [.int .i64 d, .int .i64 l, .int .i64 f, .int .i64 s, .int .i64 0, .int .i64 0, .int .i64 0, .int .i64 0, .int .i64 0, .int .i64 0, .int .i64 0, .int .i64 e0, .int .i64 e1, .int .i64 e2, .int .i64 e3]
      have HCe := (HC5.out.mono (M' := M + 100) (by omega)).kept g_ (fun k hk => by cases hk; omega)
      have Ge := grownBy_own G5.out g_ (fun k hk => by cases hk; omega)
      rw [← hWE]
      clear g_ hWE
      obtain ⟨z0, z1, z2, z3, z4, z5, z6, z7, z8, z9, z10, z11, z12, z13, z14, zf⟩ := BR.fifteen
      exact bodyPost_ret (v := .agg #[.int .i64 d, .int .i64 l, .int .i64 f, .int .i64 s, .int .i64 0, .int .i64 0, .int .i64 0, .int .i64 0, .int .i64 0, .int .i64 0, .int .i64 0, .int .i64 e0, .int .i64 e1, .int .i64 e2, .int .i64 e3]) (by simp [results, Tryd.results73, go_sem, z0, z1, z2, z3, z4, z5, z6, z7, z8, z9, z10, z11, z12, z13, z14]) rfl ⟨⟨_, _, _, _, _, _, _, _, _, _, _, _, _, _, _, rfl, aOk_in0 QF.out (.inr QA.out)⟩, HCe, Ge⟩
    · have ra_ := XA3.out.range
      have t_ := XR3.out.ther (n := 15) rfl
      go_wp2_with (first | (with_reducible refine isList ?_; refine ld15 3 D [.int .i64 d, .int .i64 l, .int .i64 f, .int .i64 s, .int .i64 0, .int .i64 0, .int .i64 0, .int .i64 0, .int .i64 0, .int .i64 0, .int .i64 0, .int .i64 0, .int .i64 0, .int .i64 0, .int .i64 0] rfl rfl rfl rfl ?_ ?_; exact ra_) | (with_reducible refine isList ?_; (set_option maxRecDepth 100000 in refine st15 2 32 R [.int .i64 d, .int .i64 l, .int .i64 f, .int .i64 s, .int .i64 0, .int .i64 0, .int .i64 0, .int .i64 0, .int .i64 0, .int .i64 0, .int .i64 0, .int .i64 0, .int .i64 0, .int .i64 0, .int .i64 0] rfl rfl rfl rfl rfl ?_ ?_ ?_); exact t_; simp [Value.oneCell']))
      clear ra_ t_
      obtain ⟨WE, hWE⟩ : ∃ X, X = w3.setCells R 0 [.int .i64 d, .int .i64 l, .int .i64 f, .int .i64 s, .int .i64 0, .int .i64 0, .int .i64 0, .int .i64 0, .int .i64 0, .int .i64 0, .int .i64 0, .int .i64 0, .int .i64 0, .int .i64 0, .int .i64 0] := ⟨_, rfl⟩
      have BR : BoxF WE R [.int .i64 d, .int .i64 l, .int .i64 f, .int .i64 s, .int .i64 0, .int .i64 0, .int .i64 0, .int .i64 0, .int .i64 0, .int .i64 0, .int .i64 0, .int .i64 0, .int .i64 0, .int .i64 0, .int .i64 0] 29 := by rw [hWE]; exact BoxF.setAll (vs := [.int .i64 d, .int .i64 l, .int .i64 f, .int .i64 s, .int .i64 0, .int .i64 0, .int .i64 0, .int .i64 0, .int .i64 0, .int .i64 0, .int .i64 0, .int .i64 0, .int .i64 0, .int .i64 0, .int .i64 0]) XR3.out
      have g_ : w3.grownBy WE (some R) := by rw [hWE]; exact setc_grown w3 R [.int .i64 d, .int .i64 l, .int .i64 f, .int .i64 s, .int .i64 0, .int .i64 0, .int .i64 0, .int .i64 0, .int .i64 0, .int .i64 0, .int .i64 0, .int .i64 0, .int .i64 0, .int .i64 0, .int .i64 0]
      have HCe := (HC3.out.mono (M' := M + 100) (by omega)).kept g_ (fun k hk => by cases hk; omega)
      have Ge := grownBy_own G3.out g_ (fun k hk => by cases hk; omega)
      rw [← hWE]
      clear g_ hWE
      obtain ⟨z0, z1, z2, z3, z4, z5, z6, z7, z8, z9, z10, z11, z12, z13, z14, zf⟩ := BR.fifteen
      exact bodyPost_ret (v := .agg #[.int .i64 d, .int .i64 l, .int .i64 f, .int .i64 s, .int .i64 0, .int .i64 0, .int .i64 0, .int .i64 0, .int .i64 0, .int .i64 0, .int .i64 0, .int .i64 0, .int .i64 0, .int .i64 0, .int .i64 0]) (by simp [results, Tryd.results73, go_sem, z0, z1, z2, z3, z4, z5, z6, z7, z8, z9, z10, z11, z12, z13, z14]) rfl ⟨⟨_, _, _, _, _, _, _, _, _, _, _, _, _, _, _, rfl, aOk_in0 QF.out (.inl rfl)⟩, HCe, Ge⟩
theorem arms_any (B p : Nat) (x : Option Addr) (n cap M : Nat) (w : World) (h : IsCur w B p x n cap M) (hM : M ≤ 800000) (hn : n ≤ 65536) :
    Calls Tryd.prog 73 #[.pointer (some ⟨p, 0, none⟩)] w (DrewArms w B p x n cap (M + 100)) :=
  (arms_ok B p x n cap M w h hM hn).mono fun e w' hh => by
    obtain ⟨⟨y0, y1, y2, y3, y4, y5, y6, y7, y8, y9, y10, y11, y12, y13, y14, he, _⟩, hc, hg⟩ := hh
    exact ⟨⟨y0, y1, y2, y3, y4, y5, y6, y7, y8, y9, y10, y11, y12, y13, y14, he⟩, hc, hg⟩
end Go.Proofs.YtmmbhglmafnfpabDoor
namespace Go.Proofs.YtmmbhglmafnfpabDoor
open Go.RowKit

set_option maxRecDepth 100000 in
set_option maxHeartbeats 20000000 in
theorem anyArms_any (B p : Nat) (x : Option Addr) (n cap M : Nat) (w : World) (h : IsCur w B p x n cap M) (hM : M ≤ 700000) (hn : n ≤ 65536) :
    Calls Tryd.prog 33 #[.pointer (some ⟨p, 0, none⟩)] w (DrewArms w B p x n cap (M + 200)) := by
  have hpw := h.lt
  have HC0 := Lib.hid (h.alloc (.cells #[.int .i64 0, .int .i64 0, .int .i64 0, .int .i64 0, .int .i64 0, .int .i64 0, .int .i64 0, .int .i64 0, .int .i64 0, .int .i64 0, .int .i64 0, .int .i64 0, .int .i64 0, .int .i64 0, .int .i64 0] 29 (0, 0)))
  have XR0 := Lib.hid (BoxF.new w [.int .i64 0, .int .i64 0, .int .i64 0, .int .i64 0, .int .i64 0, .int .i64 0, .int .i64 0, .int .i64 0, .int .i64 0, .int .i64 0, .int .i64 0, .int .i64 0, .int .i64 0, .int .i64 0, .int .i64 0] 29)
  have G0 := Lib.hid (World.grownBy_alloc w (.cells #[.int .i64 0, .int .i64 0, .int .i64 0, .int .i64 0, .int .i64 0, .int .i64 0, .int .i64 0, .int .i64 0, .int .i64 0, .int .i64 0, .int .i64 0, .int .i64 0, .int .i64 0, .int .i64 0, .int .i64 0] 29 (0, 0)) (some p))
  obtain ⟨R, hRe⟩ : ∃ R, w.heap.size = R := ⟨_, rfl⟩
  have hR : w.heap.size ≤ R := by omega
  rw [hRe] at XR0
  clear h
  go_enter Tryd.func33, Tryd.ntmps33
  go_wp2_with fail
  refine (arms_any B p x n cap _ _ HC0.out (by omega) hn).mono ?_
  rintro e w1 ⟨⟨d, l, f, s, o, ln, tn, c, k, a, t, c', k', a', t', rfl⟩, hc, hg⟩
  have XA1 := BoxF.new w1 [.int .i64 d, .int .i64 l, .int .i64 f, .int .i64 s, .int .i64 o, .int .i64 ln, .int .i64 tn, .int .i64 c, .int .i64 k, .int .i64 a, .int .i64 t, .int .i64 c', .int .i64 k', .int .i64 a', .int .i64 t'] 29
  have HC1 := Lib.hid (hc.alloc (.cells #[.int .i64 d, .int .i64 l, .int .i64 f, .int .i64 s, .int .i64 o, .int .i64 ln, .int .i64 tn, .int .i64 c, .int .i64 k, .int .i64 a, .int .i64 t, .int .i64 c', .int .i64 k', .int .i64 a', .int .i64 t'] 29 (0, 0)))
  have XR1 := Lib.hid ((XR0.out.kept hg (by first | (simp; done) | (simp; omega))).alloc (.cells #[.int .i64 d, .int .i64 l, .int .i64 f, .int .i64 s, .int .i64 o, .int .i64 ln, .int .i64 tn, .int .i64 c, .int .i64 k, .int .i64 a, .int .i64 t, .int .i64 c', .int .i64 k', .int .i64 a', .int .i64 t'] 29 (0, 0)))
  have G1 := Lib.hid ((G0.out.trans hg).trans (World.grownBy_alloc w1 (.cells #[.int .i64 d, .int .i64 l, .int .i64 f, .int .i64 s, .int .i64 o, .int .i64 ln, .int .i64 tn, .int .i64 c, .int .i64 k, .int .i64 a, .int .i64 t, .int .i64 c', .int .i64 k', .int .i64 a', .int .i64 t'] 29 (0, 0)) (some p)))
  have hz := hg.size
  have hrl := XR0.out.lt
  clear hc hg HC0 XR0 G0
  go_wp2_with fail
  obtain ⟨D, hDe⟩ : ∃ D, w1.heap.size = D := ⟨_, rfl⟩
  have hD : w.heap.size ≤ D := by omega
  have hRD : R ≠ D := by omega
  rw [hDe] at XA1 ⊢
  have XA1 := Lib.hid XA1
  clear hz hrl hDe
  generalize w1.alloc (.cells #[.int .i64 d, .int .i64 l, .int .i64 f, .int .i64 s, .int .i64 o, .int .i64 ln, .int .i64 tn, .int .i64 c, .int .i64 k, .int .i64 a, .int .i64 t, .int .i64 c', .int .i64 k', .int .i64 a', .int .i64 t'] 29 (0, 0)) = W1 at *
  with_reducible refine (pick_any B p x n cap _ _ HC1.out (by omega) hn 24 (by omega) (by omega)).mono ?_
  rintro e w2 ⟨⟨r, rfl, hr0, hr1⟩, hc, hg⟩
  have HC2 := Lib.hid hc
  have XA2 := Lib.hid (XA1.out.kept hg (by first | (simp; done) | (simp; omega)))
  have XR2 := Lib.hid (XR1.out.kept hg (by first | (simp; done) | (simp; omega)))
  have G2 := Lib.hid (G1.out.trans hg)
  clear hc hg HC1 XA1 XR1 G1
  by_cases e0 : r = 0
  · have t0 : (r == 0) = true := by rw [beq_iff_eq]; exact e0
    clear e0 hr0 hr1
    go_wp2_with fail
    with_reducible refine (anyField_any B p x n cap _ _ HC2.out (by omega) hn).mono ?_
    rintro e w3 ⟨⟨y0, y1, y2, y3, rfl⟩, hc, hg⟩
    have HC3 := Lib.hid hc
    have XA3 := Lib.hid (XA2.out.kept hg (by first | (simp; done) | (simp; omega)))
    have XR3 := Lib.hid (XR2.out.kept hg (by first | (simp; done) | (simp; omega)))
    have G3 := Lib.hid (G2.out.trans hg)
    clear hc hg HC2 XA2 XR2 G2
    have b_ := XA3.out
    obtain ⟨m0, m1, m2, m3, m4, m5, m6, m7, m8, m9, m10, m11, m12, m13, m14, mf⟩ := b_.fifteen
    clear b_
    have gs : w3.grownBy ((((w3.setCell ⟨D, 0, none⟩ (.int .i64 y0)).setCell ⟨D, 1, none⟩ (.int .i64 y1)).setCell ⟨D, 2, none⟩ (.int .i64 y2)).setCell ⟨D, 3, none⟩ (.int .i64 y3)) (some D) := sets_grown [.int .i64 y0, .int .i64 y1, .int .i64 y2, .int .i64 y3] 0 w3
    have a_ : BoxF ((((w3.setCell ⟨D, 0, none⟩ (.int .i64 y0)).setCell ⟨D, 1, none⟩ (.int .i64 y1)).setCell ⟨D, 2, none⟩ (.int .i64 y2)).setCell ⟨D, 3, none⟩ (.int .i64 y3)) D [.int .i64 y0, .int .i64 y1, .int .i64 y2, .int .i64 y3, .int .i64 o, .int .i64 ln, .int .i64 tn, .int .i64 c, .int .i64 k, .int .i64 a, .int .i64 t, .int .i64 c', .int .i64 k', .int .i64 a', .int .i64 t'] 29 := sets_box [.int .i64 y0, .int .i64 y1, .int .i64 y2, .int .i64 y3] 0 XA3.out
    have r_ : BoxF ((((w3.setCell ⟨D, 0, none⟩ (.int .i64 y0)).setCell ⟨D, 1, none⟩ (.int .i64 y1)).setCell ⟨D, 2, none⟩ (.int .i64 y2)).setCell ⟨D, 3, none⟩ (.int .i64 y3)) R [.int .i64 0, .int .i64 0, .int .i64 0, .int .i64 0, .int .i64 0, .int .i64 0, .int .i64 0, .int .i64 0, .int .i64 0, .int .i64 0, .int .i64 0, .int .i64 0, .int .i64 0, .int .i64 0, .int .i64 0] 29 := XR3.out.kept gs (by first | (simp; done) | (simp; omega))
    have XR4 := Lib.hid r_
    have HC4 := Lib.hid (HC3.out.kept gs (fun k hk => by cases hk; omega))
    have G4 := Lib.hid (grownBy_own G3.out gs (fun k hk => by cases hk; omega))
    have ra_ := a_.range
    have t_ := r_.ther (n := 15) rfl
    clear a_ r_ gs HC3 XA3 XR3 G3
    go_wp2_with (first | (with_reducible refine isList ?_; refine ld15 3 D [.int .i64 y0, .int .i64 y1, .int .i64 y2, .int .i64 y3, .int .i64 o, .int .i64 ln, .int .i64 tn, .int .i64 c, .int .i64 k, .int .i64 a, .int .i64 t, .int .i64 c', .int .i64 k', .int .i64 a', .int .i64 t'] rfl rfl rfl rfl ?_ ?_; exact ra_) | (with_reducible refine isList ?_; (set_option maxRecDepth 100000 in refine st15 2 41 R [.int .i64 y0, .int .i64 y1, .int .i64 y2, .int .i64 y3, .int .i64 o, .int .i64 ln, .int .i64 tn, .int .i64 c, .int .i64 k, .int .i64 a, .int .i64 t, .int .i64 c', .int .i64 k', .int .i64 a', .int .i64 t'] rfl rfl rfl rfl rfl ?_ ?_ ?_); exact t_; simp [Value.oneCell']))
    clear m0 m1 m2 m3 m4 m5 m6 m7 m8 m9 m10 m11 m12 m13 m14 mf ra_ t_
    generalize ((((w3.setCell ⟨D, 0, none⟩ (.int .i64 y0)).setCell ⟨D, 1, none⟩ (.int .i64 y1)).setCell ⟨D, 2, none⟩ (.int .i64 y2)).setCell ⟨D, 3, none⟩ (.int .i64 y3)) = W4 at *
    obtain ⟨WE, hWE⟩ : ∃ X, X = W4.setCells R 0 [.int .i64 y0, .int .i64 y1, .int .i64 y2, .int .i64 y3, .int .i64 o, .int .i64 ln, .int .i64 tn, .int .i64 c, .int .i64 k, .int .i64 a, .int .i64 t, .int .i64 c', .int .i64 k', .int .i64 a', .int .i64 t'] := ⟨_, rfl⟩
    have BR : BoxF WE R [.int .i64 y0, .int .i64 y1, .int .i64 y2, .int .i64 y3, .int .i64 o, .int .i64 ln, .int .i64 tn, .int .i64 c, .int .i64 k, .int .i64 a, .int .i64 t, .int .i64 c', .int .i64 k', .int .i64 a', .int .i64 t'] 29 := by rw [hWE]; exact BoxF.setAll (vs := [.int .i64 y0, .int .i64 y1, .int .i64 y2, .int .i64 y3, .int .i64 o, .int .i64 ln, .int .i64 tn, .int .i64 c, .int .i64 k, .int .i64 a, .int .i64 t, .int .i64 c', .int .i64 k', .int .i64 a', .int .i64 t']) XR4.out
    have g_ : W4.grownBy WE (some R) := by rw [hWE]; exact setc_grown W4 R [.int .i64 y0, .int .i64 y1, .int .i64 y2, .int .i64 y3, .int .i64 o, .int .i64 ln, .int .i64 tn, .int .i64 c, .int .i64 k, .int .i64 a, .int .i64 t, .int .i64 c', .int .i64 k', .int .i64 a', .int .i64 t']
    have HCe := (HC4.out.mono (M' := M + 200) (by omega)).kept g_ (fun k hk => by cases hk; omega)
    have Ge := grownBy_own G4.out g_ (fun k hk => by cases hk; omega)
    rw [← hWE]
    clear g_ hWE
    obtain ⟨z0, z1, z2, z3, z4, z5, z6, z7, z8, z9, z10, z11, z12, z13, z14, zf⟩ := BR.fifteen
    exact bodyPost_ret (v := .agg #[.int .i64 y0, .int .i64 y1, .int .i64 y2, .int .i64 y3, .int .i64 o, .int .i64 ln, .int .i64 tn, .int .i64 c, .int .i64 k, .int .i64 a, .int .i64 t, .int .i64 c', .int .i64 k', .int .i64 a', .int .i64 t']) (by simp [results, Tryd.results33, go_sem, z0, z1, z2, z3, z4, z5, z6, z7, z8, z9, z10, z11, z12, z13, z14]) rfl ⟨⟨_, _, _, _, _, _, _, _, _, _, _, _, _, _, _, rfl⟩, HCe, Ge⟩
  · have t0 : (r == 0) = false := by rw [beq_eq_false_iff_ne]; exact e0
    by_cases e1 : r = 1
    · have t1 : (r == 1) = true := by rw [beq_iff_eq]; exact e1
      clear e0 e1 hr0 hr1
      go_wp2_with fail
      with_reducible refine (among_p B p x n cap _ _ (HC2.out.alloc _) (by omega) hn w2.heap.size 4 4 (fun _ => True) (by omega) (by omega) (numRowP_alloc w2 #[.int .i64 (-1), .int .i64 (8), .int .i64 (0), .int .i64 (7)] 3 (fun _ => True) 4 rfl (by simp [isNumP])) (by have := HC2.out.lt; omega) (by rw [alloc_size]; omega)).mono ?_
      rintro e w3 ⟨⟨y, rfl, _⟩, hc, hg⟩
      have HC3 := Lib.hid hc
      have XA3 := Lib.hid ((XA2.out.alloc _).kept hg (by first | (simp; done) | (simp; omega)))
      have XR3 := Lib.hid ((XR2.out.alloc _).kept hg (by first | (simp; done) | (simp; omega)))
      have G3 := Lib.hid (G2.out.trans ((World.grownBy_alloc w2 _ _).trans hg))
      clear hc hg HC2 XA2 XR2 G2
      have b_ := XA3.out
      obtain ⟨m0, m1, m2, m3, m4, m5, m6, m7, m8, m9, m10, m11, m12, m13, m14, mf⟩ := b_.fifteen
      clear b_
      have gs : w3.grownBy (w3.setCell ⟨D, 4, none⟩ (.int .i64 y)) (some D) := sets_grown [.int .i64 y] 4 w3
      have a_ : BoxF (w3.setCell ⟨D, 4, none⟩ (.int .i64 y)) D [.int .i64 d, .int .i64 l, .int .i64 f, .int .i64 s, .int .i64 y, .int .i64 ln, .int .i64 tn, .int .i64 c, .int .i64 k, .int .i64 a, .int .i64 t, .int .i64 c', .int .i64 k', .int .i64 a', .int .i64 t'] 29 := sets_box [.int .i64 y] 4 XA3.out
      have r_ : BoxF (w3.setCell ⟨D, 4, none⟩ (.int .i64 y)) R [.int .i64 0, .int .i64 0, .int .i64 0, .int .i64 0, .int .i64 0, .int .i64 0, .int .i64 0, .int .i64 0, .int .i64 0, .int .i64 0, .int .i64 0, .int .i64 0, .int .i64 0, .int .i64 0, .int .i64 0] 29 := XR3.out.kept gs (by first | (simp; done) | (simp; omega))
      have XR4 := Lib.hid r_
      have HC4 := Lib.hid (HC3.out.kept gs (fun k hk => by cases hk; omega))
      have G4 := Lib.hid (grownBy_own G3.out gs (fun k hk => by cases hk; omega))
      have ra_ := a_.range
      have t_ := r_.ther (n := 15) rfl
      clear a_ r_ gs HC3 XA3 XR3 G3
      go_wp2_with (first | (with_reducible refine isList ?_; refine ld15 3 D [.int .i64 d, .int .i64 l, .int .i64 f, .int .i64 s, .int .i64 y, .int .i64 ln, .int .i64 tn, .int .i64 c, .int .i64 k, .int .i64 a, .int .i64 t, .int .i64 c', .int .i64 k', .int .i64 a', .int .i64 t'] rfl rfl rfl rfl ?_ ?_; exact ra_) | (with_reducible refine isList ?_; (set_option maxRecDepth 100000 in refine st15 2 41 R [.int .i64 d, .int .i64 l, .int .i64 f, .int .i64 s, .int .i64 y, .int .i64 ln, .int .i64 tn, .int .i64 c, .int .i64 k, .int .i64 a, .int .i64 t, .int .i64 c', .int .i64 k', .int .i64 a', .int .i64 t'] rfl rfl rfl rfl rfl ?_ ?_ ?_); exact t_; simp [Value.oneCell']))
      clear m0 m1 m2 m3 m4 m5 m6 m7 m8 m9 m10 m11 m12 m13 m14 mf ra_ t_
      generalize (w3.setCell ⟨D, 4, none⟩ (.int .i64 y)) = W4 at *
      obtain ⟨WE, hWE⟩ : ∃ X, X = W4.setCells R 0 [.int .i64 d, .int .i64 l, .int .i64 f, .int .i64 s, .int .i64 y, .int .i64 ln, .int .i64 tn, .int .i64 c, .int .i64 k, .int .i64 a, .int .i64 t, .int .i64 c', .int .i64 k', .int .i64 a', .int .i64 t'] := ⟨_, rfl⟩
      have BR : BoxF WE R [.int .i64 d, .int .i64 l, .int .i64 f, .int .i64 s, .int .i64 y, .int .i64 ln, .int .i64 tn, .int .i64 c, .int .i64 k, .int .i64 a, .int .i64 t, .int .i64 c', .int .i64 k', .int .i64 a', .int .i64 t'] 29 := by rw [hWE]; exact BoxF.setAll (vs := [.int .i64 d, .int .i64 l, .int .i64 f, .int .i64 s, .int .i64 y, .int .i64 ln, .int .i64 tn, .int .i64 c, .int .i64 k, .int .i64 a, .int .i64 t, .int .i64 c', .int .i64 k', .int .i64 a', .int .i64 t']) XR4.out
      have g_ : W4.grownBy WE (some R) := by rw [hWE]; exact setc_grown W4 R [.int .i64 d, .int .i64 l, .int .i64 f, .int .i64 s, .int .i64 y, .int .i64 ln, .int .i64 tn, .int .i64 c, .int .i64 k, .int .i64 a, .int .i64 t, .int .i64 c', .int .i64 k', .int .i64 a', .int .i64 t']
      have HCe := (HC4.out.mono (M' := M + 200) (by omega)).kept g_ (fun k hk => by cases hk; omega)
      have Ge := grownBy_own G4.out g_ (fun k hk => by cases hk; omega)
      rw [← hWE]
      clear g_ hWE
      obtain ⟨z0, z1, z2, z3, z4, z5, z6, z7, z8, z9, z10, z11, z12, z13, z14, zf⟩ := BR.fifteen
      exact bodyPost_ret (v := .agg #[.int .i64 d, .int .i64 l, .int .i64 f, .int .i64 s, .int .i64 y, .int .i64 ln, .int .i64 tn, .int .i64 c, .int .i64 k, .int .i64 a, .int .i64 t, .int .i64 c', .int .i64 k', .int .i64 a', .int .i64 t']) (by simp [results, Tryd.results33, go_sem, z0, z1, z2, z3, z4, z5, z6, z7, z8, z9, z10, z11, z12, z13, z14]) rfl ⟨⟨_, _, _, _, _, _, _, _, _, _, _, _, _, _, _, rfl⟩, HCe, Ge⟩
    · have t1 : (r == 1) = false := by rw [beq_eq_false_iff_ne]; exact e1
      by_cases e2 : r = 2
      · have t2 : (r == 2) = true := by rw [beq_iff_eq]; exact e2
        clear e0 e1 e2 hr0 hr1
        go_wp2_with fail
        with_reducible refine (among_p B p x n cap _ _ (HC2.out.alloc _) (by omega) hn w2.heap.size 3 3 (fun _ => True) (by omega) (by omega) (numRowP_alloc w2 #[.int .i64 (-1), .int .i64 (5), .int .i64 (1)] 3 (fun _ => True) 3 rfl (by simp [isNumP])) (by have := HC2.out.lt; omega) (by rw [alloc_size]; omega)).mono ?_
        rintro e w3 ⟨⟨y, rfl, _⟩, hc, hg⟩
        have HC3 := Lib.hid hc
        have XA3 := Lib.hid ((XA2.out.alloc _).kept hg (by first | (simp; done) | (simp; omega)))
        have XR3 := Lib.hid ((XR2.out.alloc _).kept hg (by first | (simp; done) | (simp; omega)))
        have G3 := Lib.hid (G2.out.trans ((World.grownBy_alloc w2 _ _).trans hg))
        clear hc hg HC2 XA2 XR2 G2
        have b_ := XA3.out
        obtain ⟨m0, m1, m2, m3, m4, m5, m6, m7, m8, m9, m10, m11, m12, m13, m14, mf⟩ := b_.fifteen
        clear b_
        have gs : w3.grownBy (w3.setCell ⟨D, 5, none⟩ (.int .i64 y)) (some D) := sets_grown [.int .i64 y] 5 w3
        have a_ : BoxF (w3.setCell ⟨D, 5, none⟩ (.int .i64 y)) D [.int .i64 d, .int .i64 l, .int .i64 f, .int .i64 s, .int .i64 o, .int .i64 y, .int .i64 tn, .int .i64 c, .int .i64 k, .int .i64 a, .int .i64 t, .int .i64 c', .int .i64 k', .int .i64 a', .int .i64 t'] 29 := sets_box [.int .i64 y] 5 XA3.out
        have r_ : BoxF (w3.setCell ⟨D, 5, none⟩ (.int .i64 y)) R [.int .i64 0, .int .i64 0, .int .i64 0, .int .i64 0, .int .i64 0, .int .i64 0, .int .i64 0, .int .i64 0, .int .i64 0, .int .i64 0, .int .i64 0, .int .i64 0, .int .i64 0, .int .i64 0, .int .i64 0] 29 := XR3.out.kept gs (by first | (simp; done) | (simp; omega))
        have XR4 := Lib.hid r_
        have HC4 := Lib.hid (HC3.out.kept gs (fun k hk => by cases hk; omega))
        have G4 := Lib.hid (grownBy_own G3.out gs (fun k hk => by cases hk; omega))
        have ra_ := a_.range
        have t_ := r_.ther (n := 15) rfl
        clear a_ r_ gs HC3 XA3 XR3 G3
        go_wp2_with (first | (with_reducible refine isList ?_; refine ld15 3 D [.int .i64 d, .int .i64 l, .int .i64 f, .int .i64 s, .int .i64 o, .int .i64 y, .int .i64 tn, .int .i64 c, .int .i64 k, .int .i64 a, .int .i64 t, .int .i64 c', .int .i64 k', .int .i64 a', .int .i64 t'] rfl rfl rfl rfl ?_ ?_; exact ra_) | (with_reducible refine isList ?_; (set_option maxRecDepth 100000 in refine st15 2 41 R [.int .i64 d, .int .i64 l, .int .i64 f, .int .i64 s, .int .i64 o, .int .i64 y, .int .i64 tn, .int .i64 c, .int .i64 k, .int .i64 a, .int .i64 t, .int .i64 c', .int .i64 k', .int .i64 a', .int .i64 t'] rfl rfl rfl rfl rfl ?_ ?_ ?_); exact t_; simp [Value.oneCell']))
        clear m0 m1 m2 m3 m4 m5 m6 m7 m8 m9 m10 m11 m12 m13 m14 mf ra_ t_
        generalize (w3.setCell ⟨D, 5, none⟩ (.int .i64 y)) = W4 at *
        obtain ⟨WE, hWE⟩ : ∃ X, X = W4.setCells R 0 [.int .i64 d, .int .i64 l, .int .i64 f, .int .i64 s, .int .i64 o, .int .i64 y, .int .i64 tn, .int .i64 c, .int .i64 k, .int .i64 a, .int .i64 t, .int .i64 c', .int .i64 k', .int .i64 a', .int .i64 t'] := ⟨_, rfl⟩
        have BR : BoxF WE R [.int .i64 d, .int .i64 l, .int .i64 f, .int .i64 s, .int .i64 o, .int .i64 y, .int .i64 tn, .int .i64 c, .int .i64 k, .int .i64 a, .int .i64 t, .int .i64 c', .int .i64 k', .int .i64 a', .int .i64 t'] 29 := by rw [hWE]; exact BoxF.setAll (vs := [.int .i64 d, .int .i64 l, .int .i64 f, .int .i64 s, .int .i64 o, .int .i64 y, .int .i64 tn, .int .i64 c, .int .i64 k, .int .i64 a, .int .i64 t, .int .i64 c', .int .i64 k', .int .i64 a', .int .i64 t']) XR4.out
        have g_ : W4.grownBy WE (some R) := by rw [hWE]; exact setc_grown W4 R [.int .i64 d, .int .i64 l, .int .i64 f, .int .i64 s, .int .i64 o, .int .i64 y, .int .i64 tn, .int .i64 c, .int .i64 k, .int .i64 a, .int .i64 t, .int .i64 c', .int .i64 k', .int .i64 a', .int .i64 t']
        have HCe := (HC4.out.mono (M' := M + 200) (by omega)).kept g_ (fun k hk => by cases hk; omega)
        have Ge := grownBy_own G4.out g_ (fun k hk => by cases hk; omega)
        rw [← hWE]
        clear g_ hWE
        obtain ⟨z0, z1, z2, z3, z4, z5, z6, z7, z8, z9, z10, z11, z12, z13, z14, zf⟩ := BR.fifteen
        exact bodyPost_ret (v := .agg #[.int .i64 d, .int .i64 l, .int .i64 f, .int .i64 s, .int .i64 o, .int .i64 y, .int .i64 tn, .int .i64 c, .int .i64 k, .int .i64 a, .int .i64 t, .int .i64 c', .int .i64 k', .int .i64 a', .int .i64 t']) (by simp [results, Tryd.results33, go_sem, z0, z1, z2, z3, z4, z5, z6, z7, z8, z9, z10, z11, z12, z13, z14]) rfl ⟨⟨_, _, _, _, _, _, _, _, _, _, _, _, _, _, _, rfl⟩, HCe, Ge⟩
      · have t2 : (r == 2) = false := by rw [beq_eq_false_iff_ne]; exact e2
        by_cases e3 : r = 3
        · have t3 : (r == 3) = true := by rw [beq_iff_eq]; exact e3
          clear e0 e1 e2 e3 hr0 hr1
          go_wp2_with fail
          with_reducible refine (among_p B p x n cap _ _ (HC2.out.alloc _) (by omega) hn w2.heap.size 3 3 (fun _ => True) (by omega) (by omega) (numRowP_alloc w2 #[.int .i64 (0), .int .i64 (10), .int .i64 (3)] 3 (fun _ => True) 3 rfl (by simp [isNumP])) (by have := HC2.out.lt; omega) (by rw [alloc_size]; omega)).mono ?_
          rintro e w3 ⟨⟨y, rfl, _⟩, hc, hg⟩
          have HC3 := Lib.hid hc
          have XA3 := Lib.hid ((XA2.out.alloc _).kept hg (by first | (simp; done) | (simp; omega)))
          have XR3 := Lib.hid ((XR2.out.alloc _).kept hg (by first | (simp; done) | (simp; omega)))
          have G3 := Lib.hid (G2.out.trans ((World.grownBy_alloc w2 _ _).trans hg))
          clear hc hg HC2 XA2 XR2 G2
          have b_ := XA3.out
          obtain ⟨m0, m1, m2, m3, m4, m5, m6, m7, m8, m9, m10, m11, m12, m13, m14, mf⟩ := b_.fifteen
          clear b_
          have gs : w3.grownBy (w3.setCell ⟨D, 6, none⟩ (.int .i64 y)) (some D) := sets_grown [.int .i64 y] 6 w3
          have a_ : BoxF (w3.setCell ⟨D, 6, none⟩ (.int .i64 y)) D [.int .i64 d, .int .i64 l, .int .i64 f, .int .i64 s, .int .i64 o, .int .i64 ln, .int .i64 y, .int .i64 c, .int .i64 k, .int .i64 a, .int .i64 t, .int .i64 c', .int .i64 k', .int .i64 a', .int .i64 t'] 29 := sets_box [.int .i64 y] 6 XA3.out
          have r_ : BoxF (w3.setCell ⟨D, 6, none⟩ (.int .i64 y)) R [.int .i64 0, .int .i64 0, .int .i64 0, .int .i64 0, .int .i64 0, .int .i64 0, .int .i64 0, .int .i64 0, .int .i64 0, .int .i64 0, .int .i64 0, .int .i64 0, .int .i64 0, .int .i64 0, .int .i64 0] 29 := XR3.out.kept gs (by first | (simp; done) | (simp; omega))
          have XR4 := Lib.hid r_
          have HC4 := Lib.hid (HC3.out.kept gs (fun k hk => by cases hk; omega))
          have G4 := Lib.hid (grownBy_own G3.out gs (fun k hk => by cases hk; omega))
          have ra_ := a_.range
          have t_ := r_.ther (n := 15) rfl
          clear a_ r_ gs HC3 XA3 XR3 G3
          go_wp2_with (first | (with_reducible refine isList ?_; refine ld15 3 D [.int .i64 d, .int .i64 l, .int .i64 f, .int .i64 s, .int .i64 o, .int .i64 ln, .int .i64 y, .int .i64 c, .int .i64 k, .int .i64 a, .int .i64 t, .int .i64 c', .int .i64 k', .int .i64 a', .int .i64 t'] rfl rfl rfl rfl ?_ ?_; exact ra_) | (with_reducible refine isList ?_; (set_option maxRecDepth 100000 in refine st15 2 41 R [.int .i64 d, .int .i64 l, .int .i64 f, .int .i64 s, .int .i64 o, .int .i64 ln, .int .i64 y, .int .i64 c, .int .i64 k, .int .i64 a, .int .i64 t, .int .i64 c', .int .i64 k', .int .i64 a', .int .i64 t'] rfl rfl rfl rfl rfl ?_ ?_ ?_); exact t_; simp [Value.oneCell']))
          clear m0 m1 m2 m3 m4 m5 m6 m7 m8 m9 m10 m11 m12 m13 m14 mf ra_ t_
          generalize (w3.setCell ⟨D, 6, none⟩ (.int .i64 y)) = W4 at *
          obtain ⟨WE, hWE⟩ : ∃ X, X = W4.setCells R 0 [.int .i64 d, .int .i64 l, .int .i64 f, .int .i64 s, .int .i64 o, .int .i64 ln, .int .i64 y, .int .i64 c, .int .i64 k, .int .i64 a, .int .i64 t, .int .i64 c', .int .i64 k', .int .i64 a', .int .i64 t'] := ⟨_, rfl⟩
          have BR : BoxF WE R [.int .i64 d, .int .i64 l, .int .i64 f, .int .i64 s, .int .i64 o, .int .i64 ln, .int .i64 y, .int .i64 c, .int .i64 k, .int .i64 a, .int .i64 t, .int .i64 c', .int .i64 k', .int .i64 a', .int .i64 t'] 29 := by rw [hWE]; exact BoxF.setAll (vs := [.int .i64 d, .int .i64 l, .int .i64 f, .int .i64 s, .int .i64 o, .int .i64 ln, .int .i64 y, .int .i64 c, .int .i64 k, .int .i64 a, .int .i64 t, .int .i64 c', .int .i64 k', .int .i64 a', .int .i64 t']) XR4.out
          have g_ : W4.grownBy WE (some R) := by rw [hWE]; exact setc_grown W4 R [.int .i64 d, .int .i64 l, .int .i64 f, .int .i64 s, .int .i64 o, .int .i64 ln, .int .i64 y, .int .i64 c, .int .i64 k, .int .i64 a, .int .i64 t, .int .i64 c', .int .i64 k', .int .i64 a', .int .i64 t']
          have HCe := (HC4.out.mono (M' := M + 200) (by omega)).kept g_ (fun k hk => by cases hk; omega)
          have Ge := grownBy_own G4.out g_ (fun k hk => by cases hk; omega)
          rw [← hWE]
          clear g_ hWE
          obtain ⟨z0, z1, z2, z3, z4, z5, z6, z7, z8, z9, z10, z11, z12, z13, z14, zf⟩ := BR.fifteen
          exact bodyPost_ret (v := .agg #[.int .i64 d, .int .i64 l, .int .i64 f, .int .i64 s, .int .i64 o, .int .i64 ln, .int .i64 y, .int .i64 c, .int .i64 k, .int .i64 a, .int .i64 t, .int .i64 c', .int .i64 k', .int .i64 a', .int .i64 t']) (by simp [results, Tryd.results33, go_sem, z0, z1, z2, z3, z4, z5, z6, z7, z8, z9, z10, z11, z12, z13, z14]) rfl ⟨⟨_, _, _, _, _, _, _, _, _, _, _, _, _, _, _, rfl⟩, HCe, Ge⟩
        · have t3 : (r == 3) = false := by rw [beq_eq_false_iff_ne]; exact e3
          by_cases e4 : r = 4
          · have t4 : (r == 4) = true := by rw [beq_iff_eq]; exact e4
            clear e0 e1 e2 e3 e4 hr0 hr1
            go_wp2_with fail
            with_reducible refine (anyGroup_any B p x n cap _ _ HC2.out (by omega) hn).mono ?_
            rintro e w3 ⟨⟨y0, y1, y2, y3, rfl⟩, hc, hg⟩
            have HC3 := Lib.hid hc
            have XA3 := Lib.hid (XA2.out.kept hg (by first | (simp; done) | (simp; omega)))
            have XR3 := Lib.hid (XR2.out.kept hg (by first | (simp; done) | (simp; omega)))
            have G3 := Lib.hid (G2.out.trans hg)
            clear hc hg HC2 XA2 XR2 G2
            have b_ := XA3.out
            obtain ⟨m0, m1, m2, m3, m4, m5, m6, m7, m8, m9, m10, m11, m12, m13, m14, mf⟩ := b_.fifteen
            clear b_
            have gs : w3.grownBy ((((w3.setCell ⟨D, 7, none⟩ (.int .i64 y0)).setCell ⟨D, 8, none⟩ (.int .i64 y1)).setCell ⟨D, 9, none⟩ (.int .i64 y2)).setCell ⟨D, 10, none⟩ (.int .i64 y3)) (some D) := sets_grown [.int .i64 y0, .int .i64 y1, .int .i64 y2, .int .i64 y3] 7 w3
            have a_ : BoxF ((((w3.setCell ⟨D, 7, none⟩ (.int .i64 y0)).setCell ⟨D, 8, none⟩ (.int .i64 y1)).setCell ⟨D, 9, none⟩ (.int .i64 y2)).setCell ⟨D, 10, none⟩ (.int .i64 y3)) D [.int .i64 d, .int .i64 l, .int .i64 f, .int .i64 s, .int .i64 o, .int .i64 ln, .int .i64 tn, .int .i64 y0, .int .i64 y1, .int .i64 y2, .int .i64 y3, .int .i64 c', .int .i64 k', .int .i64 a', .int .i64 t'] 29 := sets_box [.int .i64 y0, .int .i64 y1, .int .i64 y2, .int .i64 y3] 7 XA3.out
            have r_ : BoxF ((((w3.setCell ⟨D, 7, none⟩ (.int .i64 y0)).setCell ⟨D, 8, none⟩ (.int .i64 y1)).setCell ⟨D, 9, none⟩ (.int .i64 y2)).setCell ⟨D, 10, none⟩ (.int .i64 y3)) R [.int .i64 0, .int .i64 0, .int .i64 0, .int .i64 0, .int .i64 0, .int .i64 0, .int .i64 0, .int .i64 0, .int .i64 0, .int .i64 0, .int .i64 0, .int .i64 0, .int .i64 0, .int .i64 0, .int .i64 0] 29 := XR3.out.kept gs (by first | (simp; done) | (simp; omega))
            have XR4 := Lib.hid r_
            have HC4 := Lib.hid (HC3.out.kept gs (fun k hk => by cases hk; omega))
            have G4 := Lib.hid (grownBy_own G3.out gs (fun k hk => by cases hk; omega))
            have ra_ := a_.range
            have t_ := r_.ther (n := 15) rfl
            clear a_ r_ gs HC3 XA3 XR3 G3
            go_wp2_with (first | (with_reducible refine isList ?_; refine ld15 3 D [.int .i64 d, .int .i64 l, .int .i64 f, .int .i64 s, .int .i64 o, .int .i64 ln, .int .i64 tn, .int .i64 y0, .int .i64 y1, .int .i64 y2, .int .i64 y3, .int .i64 c', .int .i64 k', .int .i64 a', .int .i64 t'] rfl rfl rfl rfl ?_ ?_; exact ra_) | (with_reducible refine isList ?_; (set_option maxRecDepth 100000 in refine st15 2 41 R [.int .i64 d, .int .i64 l, .int .i64 f, .int .i64 s, .int .i64 o, .int .i64 ln, .int .i64 tn, .int .i64 y0, .int .i64 y1, .int .i64 y2, .int .i64 y3, .int .i64 c', .int .i64 k', .int .i64 a', .int .i64 t'] rfl rfl rfl rfl rfl ?_ ?_ ?_); exact t_; simp [Value.oneCell']))
            clear m0 m1 m2 m3 m4 m5 m6 m7 m8 m9 m10 m11 m12 m13 m14 mf ra_ t_
            generalize ((((w3.setCell ⟨D, 7, none⟩ (.int .i64 y0)).setCell ⟨D, 8, none⟩ (.int .i64 y1)).setCell ⟨D, 9, none⟩ (.int .i64 y2)).setCell ⟨D, 10, none⟩ (.int .i64 y3)) = W4 at *
            obtain ⟨WE, hWE⟩ : ∃ X, X = W4.setCells R 0 [.int .i64 d, .int .i64 l, .int .i64 f, .int .i64 s, .int .i64 o, .int .i64 ln, .int .i64 tn, .int .i64 y0, .int .i64 y1, .int .i64 y2, .int .i64 y3, .int .i64 c', .int .i64 k', .int .i64 a', .int .i64 t'] := ⟨_, rfl⟩
            have BR : BoxF WE R [.int .i64 d, .int .i64 l, .int .i64 f, .int .i64 s, .int .i64 o, .int .i64 ln, .int .i64 tn, .int .i64 y0, .int .i64 y1, .int .i64 y2, .int .i64 y3, .int .i64 c', .int .i64 k', .int .i64 a', .int .i64 t'] 29 := by rw [hWE]; exact BoxF.setAll (vs := [.int .i64 d, .int .i64 l, .int .i64 f, .int .i64 s, .int .i64 o, .int .i64 ln, .int .i64 tn, .int .i64 y0, .int .i64 y1, .int .i64 y2, .int .i64 y3, .int .i64 c', .int .i64 k', .int .i64 a', .int .i64 t']) XR4.out
            have g_ : W4.grownBy WE (some R) := by rw [hWE]; exact setc_grown W4 R [.int .i64 d, .int .i64 l, .int .i64 f, .int .i64 s, .int .i64 o, .int .i64 ln, .int .i64 tn, .int .i64 y0, .int .i64 y1, .int .i64 y2, .int .i64 y3, .int .i64 c', .int .i64 k', .int .i64 a', .int .i64 t']
            have HCe := (HC4.out.mono (M' := M + 200) (by omega)).kept g_ (fun k hk => by cases hk; omega)
            have Ge := grownBy_own G4.out g_ (fun k hk => by cases hk; omega)
            rw [← hWE]
            clear g_ hWE
            obtain ⟨z0, z1, z2, z3, z4, z5, z6, z7, z8, z9, z10, z11, z12, z13, z14, zf⟩ := BR.fifteen
            exact bodyPost_ret (v := .agg #[.int .i64 d, .int .i64 l, .int .i64 f, .int .i64 s, .int .i64 o, .int .i64 ln, .int .i64 tn, .int .i64 y0, .int .i64 y1, .int .i64 y2, .int .i64 y3, .int .i64 c', .int .i64 k', .int .i64 a', .int .i64 t']) (by simp [results, Tryd.results33, go_sem, z0, z1, z2, z3, z4, z5, z6, z7, z8, z9, z10, z11, z12, z13, z14]) rfl ⟨⟨_, _, _, _, _, _, _, _, _, _, _, _, _, _, _, rfl⟩, HCe, Ge⟩
          · have t4 : (r == 4) = false := by rw [beq_eq_false_iff_ne]; exact e4
            by_cases e5 : r = 5
            · have t5 : (r == 5) = true := by rw [beq_iff_eq]; exact e5
              clear e0 e1 e2 e3 e4 e5 hr0 hr1
              go_wp2_with fail
              with_reducible refine (anyGroup_any B p x n cap _ _ HC2.out (by omega) hn).mono ?_
              rintro e w3 ⟨⟨y0, y1, y2, y3, rfl⟩, hc, hg⟩
              have HC3 := Lib.hid hc
              have XA3 := Lib.hid (XA2.out.kept hg (by first | (simp; done) | (simp; omega)))
              have XR3 := Lib.hid (XR2.out.kept hg (by first | (simp; done) | (simp; omega)))
              have G3 := Lib.hid (G2.out.trans hg)
              clear hc hg HC2 XA2 XR2 G2
              have b_ := XA3.out
              obtain ⟨m0, m1, m2, m3, m4, m5, m6, m7, m8, m9, m10, m11, m12, m13, m14, mf⟩ := b_.fifteen
              clear b_
              have gs : w3.grownBy ((((w3.setCell ⟨D, 11, none⟩ (.int .i64 y0)).setCell ⟨D, 12, none⟩ (.int .i64 y1)).setCell ⟨D, 13, none⟩ (.int .i64 y2)).setCell ⟨D, 14, none⟩ (.int .i64 y3)) (some D) := sets_grown [.int .i64 y0, .int .i64 y1, .int .i64 y2, .int .i64 y3] 11 w3
              have a_ : BoxF ((((w3.setCell ⟨D, 11, none⟩ (.int .i64 y0)).setCell ⟨D, 12, none⟩ (.int .i64 y1)).setCell ⟨D, 13, none⟩ (.int .i64 y2)).setCell ⟨D, 14, none⟩ (.int .i64 y3)) D [.int .i64 d, .int .i64 l, .int .i64 f, .int .i64 s, .int .i64 o, .int .i64 ln, .int .i64 tn, .int .i64 c, .int .i64 k, .int .i64 a, .int .i64 t, .int .i64 y0, .int .i64 y1, .int .i64 y2, .int .i64 y3] 29 := sets_box [.int .i64 y0, .int .i64 y1, .int .i64 y2, .int .i64 y3] 11 XA3.out
              have r_ : BoxF ((((w3.setCell ⟨D, 11, none⟩ (.int .i64 y0)).setCell ⟨D, 12, none⟩ (.int .i64 y1)).setCell ⟨D, 13, none⟩ (.int .i64 y2)).setCell ⟨D, 14, none⟩ (.int .i64 y3)) R [.int .i64 0, .int .i64 0, .int .i64 0, .int .i64 0, .int .i64 0, .int .i64 0, .int .i64 0, .int .i64 0, .int .i64 0, .int .i64 0, .int .i64 0, .int .i64 0, .int .i64 0, .int .i64 0, .int .i64 0] 29 := XR3.out.kept gs (by first | (simp; done) | (simp; omega))
              have XR4 := Lib.hid r_
              have HC4 := Lib.hid (HC3.out.kept gs (fun k hk => by cases hk; omega))
              have G4 := Lib.hid (grownBy_own G3.out gs (fun k hk => by cases hk; omega))
              have ra_ := a_.range
              have t_ := r_.ther (n := 15) rfl
              clear a_ r_ gs HC3 XA3 XR3 G3
              go_wp2_with (first | (with_reducible refine isList ?_; refine ld15 3 D [.int .i64 d, .int .i64 l, .int .i64 f, .int .i64 s, .int .i64 o, .int .i64 ln, .int .i64 tn, .int .i64 c, .int .i64 k, .int .i64 a, .int .i64 t, .int .i64 y0, .int .i64 y1, .int .i64 y2, .int .i64 y3] rfl rfl rfl rfl ?_ ?_; exact ra_) | (with_reducible refine isList ?_; (set_option maxRecDepth 100000 in refine st15 2 41 R [.int .i64 d, .int .i64 l, .int .i64 f, .int .i64 s, .int .i64 o, .int .i64 ln, .int .i64 tn, .int .i64 c, .int .i64 k, .int .i64 a, .int .i64 t, .int .i64 y0, .int .i64 y1, .int .i64 y2, .int .i64 y3] rfl rfl rfl rfl rfl ?_ ?_ ?_); exact t_; simp [Value.oneCell']))
              clear m0 m1 m2 m3 m4 m5 m6 m7 m8 m9 m10 m11 m12 m13 m14 mf ra_ t_
              generalize ((((w3.setCell ⟨D, 11, none⟩ (.int .i64 y0)).setCell ⟨D, 12, none⟩ (.int .i64 y1)).setCell ⟨D, 13, none⟩ (.int .i64 y2)).setCell ⟨D, 14, none⟩ (.int .i64 y3)) = W4 at *
              obtain ⟨WE, hWE⟩ : ∃ X, X = W4.setCells R 0 [.int .i64 d, .int .i64 l, .int .i64 f, .int .i64 s, .int .i64 o, .int .i64 ln, .int .i64 tn, .int .i64 c, .int .i64 k, .int .i64 a, .int .i64 t, .int .i64 y0, .int .i64 y1, .int .i64 y2, .int .i64 y3] := ⟨_, rfl⟩
              have BR : BoxF WE R [.int .i64 d, .int .i64 l, .int .i64 f, .int .i64 s, .int .i64 o, .int .i64 ln, .int .i64 tn, .int .i64 c, .int .i64 k, .int .i64 a, .int .i64 t, .int .i64 y0, .int .i64 y1, .int .i64 y2, .int .i64 y3] 29 := by rw [hWE]; exact BoxF.setAll (vs := [.int .i64 d, .int .i64 l, .int .i64 f, .int .i64 s, .int .i64 o, .int .i64 ln, .int .i64 tn, .int .i64 c, .int .i64 k, .int .i64 a, .int .i64 t, .int .i64 y0, .int .i64 y1, .int .i64 y2, .int .i64 y3]) XR4.out
              have g_ : W4.grownBy WE (some R) := by rw [hWE]; exact setc_grown W4 R [.int .i64 d, .int .i64 l, .int .i64 f, .int .i64 s, .int .i64 o, .int .i64 ln, .int .i64 tn, .int .i64 c, .int .i64 k, .int .i64 a, .int .i64 t, .int .i64 y0, .int .i64 y1, .int .i64 y2, .int .i64 y3]
              have HCe := (HC4.out.mono (M' := M + 200) (by omega)).kept g_ (fun k hk => by cases hk; omega)
              have Ge := grownBy_own G4.out g_ (fun k hk => by cases hk; omega)
              rw [← hWE]
              clear g_ hWE
              obtain ⟨z0, z1, z2, z3, z4, z5, z6, z7, z8, z9, z10, z11, z12, z13, z14, zf⟩ := BR.fifteen
              exact bodyPost_ret (v := .agg #[.int .i64 d, .int .i64 l, .int .i64 f, .int .i64 s, .int .i64 o, .int .i64 ln, .int .i64 tn, .int .i64 c, .int .i64 k, .int .i64 a, .int .i64 t, .int .i64 y0, .int .i64 y1, .int .i64 y2, .int .i64 y3]) (by simp [results, Tryd.results33, go_sem, z0, z1, z2, z3, z4, z5, z6, z7, z8, z9, z10, z11, z12, z13, z14]) rfl ⟨⟨_, _, _, _, _, _, _, _, _, _, _, _, _, _, _, rfl⟩, HCe, Ge⟩
            · have t5 : (r == 5) = false := by rw [beq_eq_false_iff_ne]; exact e5
              clear e0 e1 e2 e3 e4 e5 hr0 hr1
              have ra_ := XA2.out.range
              have t_ := XR2.out.ther (n := 15) rfl
              go_wp2_with (first | (with_reducible refine isList ?_; refine ld15 3 D [.int .i64 d, .int .i64 l, .int .i64 f, .int .i64 s, .int .i64 o, .int .i64 ln, .int .i64 tn, .int .i64 c, .int .i64 k, .int .i64 a, .int .i64 t, .int .i64 c', .int .i64 k', .int .i64 a', .int .i64 t'] rfl rfl rfl rfl ?_ ?_; exact ra_) | (with_reducible refine isList ?_; (set_option maxRecDepth 100000 in refine st15 2 41 R [.int .i64 d, .int .i64 l, .int .i64 f, .int .i64 s, .int .i64 o, .int .i64 ln, .int .i64 tn, .int .i64 c, .int .i64 k, .int .i64 a, .int .i64 t, .int .i64 c', .int .i64 k', .int .i64 a', .int .i64 t'] rfl rfl rfl rfl rfl ?_ ?_ ?_); exact t_; simp [Value.oneCell']))
              clear ra_ t_
              obtain ⟨WE, hWE⟩ : ∃ X, X = w2.setCells R 0 [.int .i64 d, .int .i64 l, .int .i64 f, .int .i64 s, .int .i64 o, .int .i64 ln, .int .i64 tn, .int .i64 c, .int .i64 k, .int .i64 a, .int .i64 t, .int .i64 c', .int .i64 k', .int .i64 a', .int .i64 t'] := ⟨_, rfl⟩
              have BR : BoxF WE R [.int .i64 d, .int .i64 l, .int .i64 f, .int .i64 s, .int .i64 o, .int .i64 ln, .int .i64 tn, .int .i64 c, .int .i64 k, .int .i64 a, .int .i64 t, .int .i64 c', .int .i64 k', .int .i64 a', .int .i64 t'] 29 := by rw [hWE]; exact BoxF.setAll (vs := [.int .i64 d, .int .i64 l, .int .i64 f, .int .i64 s, .int .i64 o, .int .i64 ln, .int .i64 tn, .int .i64 c, .int .i64 k, .int .i64 a, .int .i64 t, .int .i64 c', .int .i64 k', .int .i64 a', .int .i64 t']) XR2.out
              have g_ : w2.grownBy WE (some R) := by rw [hWE]; exact setc_grown w2 R [.int .i64 d, .int .i64 l, .int .i64 f, .int .i64 s, .int .i64 o, .int .i64 ln, .int .i64 tn, .int .i64 c, .int .i64 k, .int .i64 a, .int .i64 t, .int .i64 c', .int .i64 k', .int .i64 a', .int .i64 t']
              have HCe := (HC2.out.mono (M' := M + 200) (by omega)).kept g_ (fun k hk => by cases hk; omega)
              have Ge := grownBy_own G2.out g_ (fun k hk => by cases hk; omega)
              rw [← hWE]
              clear g_ hWE
              obtain ⟨z0, z1, z2, z3, z4, z5, z6, z7, z8, z9, z10, z11, z12, z13, z14, zf⟩ := BR.fifteen
              exact bodyPost_ret (v := .agg #[.int .i64 d, .int .i64 l, .int .i64 f, .int .i64 s, .int .i64 o, .int .i64 ln, .int .i64 tn, .int .i64 c, .int .i64 k, .int .i64 a, .int .i64 t, .int .i64 c', .int .i64 k', .int .i64 a', .int .i64 t']) (by simp [results, Tryd.results33, go_sem, z0, z1, z2, z3, z4, z5, z6, z7, z8, z9, z10, z11, z12, z13, z14]) rfl ⟨⟨_, _, _, _, _, _, _, _, _, _, _, _, _, _, _, rfl⟩, HCe, Ge⟩
end Go.Proofs.YtmmbhglmafnfpabDoor
