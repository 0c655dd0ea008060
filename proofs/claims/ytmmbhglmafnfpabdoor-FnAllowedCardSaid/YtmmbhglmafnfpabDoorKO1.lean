/- Several small texts in one: DrawGroup, DrawAny, LawIn. -/
import Derived.Test.YtmmbhglmafnfpabDoorKD
import Derived.Test.YtmmbhglmafnfpabDoorKC
import Derived.IntWalk
import Derived.Test.YtmmbhglmafnfpabDoorKA
namespace Go.Proofs.YtmmbhglmafnfpabDoor
open Go.RowKit

def DrewGroup (w : World) (B p : Nat) (x : Option Addr) (n cap M : Nat) (e : Ending) (w' : World) : Prop :=
  (∃ c k a t : Int, e = .returned (.agg #[.int .i64 c, .int .i64 k, .int .i64 a, .int .i64 t]) ∧ gOkB c k a t = true) ∧ IsCur w' B p x n cap M ∧ w.grownBy w' (some p)
set_option maxHeartbeats 8000000 in
theorem group_any (B p : Nat) (x : Option Addr) (n cap M : Nat) (w : World) (h : IsCur w B p x n cap M) (hM : M ≤ 900000) (hn : n ≤ 65536) :
    Calls Tryd.prog 99 #[.pointer (some ⟨p, 0, none⟩)] w (DrewGroup w B p x n cap (M + 20)) := by
  have hpw := h.lt
  have HC0 := Lib.hid h
  have b0 := Lib.hid (BoxF.new w [.int .i64 0, .int .i64 0, .int .i64 0, .int .i64 0] 27)
  clear h
  go_enter Tryd.func99, Tryd.ntmps99
  go_wp2_with fail
  refine (among_p B p x n cap M _ ((HC0.out.alloc _).alloc _) (by omega) hn (w.heap.size + 1) 8 8 (fun y => 1 ≤ y ∧ y ≤ 6) (by omega) (by omega) (by have e := numRowP_alloc (w.alloc (.cells #[.int .i64 0, .int .i64 0, .int .i64 0, .int .i64 0] 27 (0, 0))) #[.int .i64 1, .int .i64 1, .int .i64 2, .int .i64 3, .int .i64 3, .int .i64 4, .int .i64 5, .int .i64 6] 3 (fun y => 1 ≤ y ∧ y ≤ 6) 8 rfl (by intro v hv; simp at hv; rcases hv with rfl | rfl | rfl | rfl | rfl | rfl | rfl | rfl <;> simp [isNumP]); rw [World.size_alloc] at e; exact e) (by omega) (by simp)).mono ?_
  rintro e w1 ⟨⟨c, rfl, hc0, hc1'⟩, hc1, hg1⟩
  have HC1 := Lib.hid hc1
  have b1 := Lib.hid ((b0.out.alloc _).kept hg1 (by first | (simp; done) | (simp; omega)))
  have hz1 := hg1.size
  simp only [World.size_alloc] at hz1
  have G1 := Lib.hid (((World.grownBy_alloc w (.cells #[.int .i64 0, .int .i64 0, .int .i64 0, .int .i64 0] 27 (0, 0)) (some p)).trans (World.grownBy_alloc _ _ _)).trans hg1)
  clear hc1 hg1 HC0 b0
  go_wp2_with fail
  refine (pick_any B p x n cap _ _ HC1.out (by omega) hn 8 (by omega) (by omega)).mono ?_
  rintro e w2 ⟨⟨r, rfl, hr0, hr1⟩, hc2, hg2⟩
  have HC2 := Lib.hid hc2
  have b2 := Lib.hid (b1.out.kept hg2 (by first | (simp; done) | (simp; omega)))
  have hz2 := hg2.size
  have G2 := Lib.hid (G1.out.trans hg2)
  have y1 : IntKind.i64.wrap (1 + r) = 1 + r := IntWalk.i64_in _ (by omega)
  clear hc2 hg2 HC1 b1 G1
  go_wp2_with fail
  refine (tincture_any B p x n cap _ _ HC2.out (by omega) hn).mono ?_
  rintro e w3 ⟨⟨t, rfl, ht0, ht1⟩, hc3, hg3⟩
  have HC3 := Lib.hid hc3
  have b3 := Lib.hid (b2.out.kept hg3 (by first | (simp; done) | (simp; omega)))
  have hz3 := hg3.size
  have G3 := Lib.hid (G2.out.trans hg3)
  have x3 := Lib.hid (BoxF.new w3 [.int .i64 c, .int .i64 (1 + r), .int .i64 0, .int .i64 t] 27)
  clear hc3 hg3 HC2 b2 G2 y1
  have hrb : 0 ≤ r ∧ r < 8 := by omega
  obtain ⟨k, hk⟩ : ∃ k, 1 + r = k := ⟨_, rfl⟩
  rw [hk] at x3 ⊢
  have hk1 : 1 ≤ k ∧ k ≤ 8 := by omega
  clear hk hr0 hr1 hrb
  obtain ⟨q, hq⟩ : ∃ q, decide (k ≤ 3) = q := ⟨_, rfl⟩
  have cb := fun W => l4Beast_any k W q hq
  have HQ := Lib.hid hq
  clear hq
  go_wp2_with fail
  refine (cb _).mono ?_
  rintro e w3' ⟨rfl, rfl⟩
  have HC4 := Lib.hid (HC3.out.alloc (.cells #[.int .i64 c, .int .i64 k, .int .i64 0, .int .i64 t] 27 (0, 0)))
  have b4 := Lib.hid (b3.out.alloc (.cells #[.int .i64 c, .int .i64 k, .int .i64 0, .int .i64 t] 27 (0, 0)))
  have G4 := Lib.hid (G3.out.trans (World.grownBy_alloc w3 (.cells #[.int .i64 c, .int .i64 k, .int .i64 0, .int .i64 t] 27 (0, 0)) (some p)))
  have hz4 : w3.heap.size + 1 = (w3.alloc (.cells #[.int .i64 c, .int .i64 k, .int .i64 0, .int .i64 t] 27 (0, 0))).heap.size := by simp
  clear HC3 b3 G3 cb
  cases q
  · obtain ⟨k0, k1, k2, k3, kf⟩ := b4.out.four
    obtain ⟨m0, m1, m2, m3, mf⟩ := x3.out.four
    have hk3 := of_decide_eq_false HQ.out
    generalize w3.alloc (.cells #[.int .i64 c, .int .i64 k, .int .i64 0, .int .i64 t] 27 (0, 0)) = W at *
    go_wp2_with fail
    refine bodyPost_ret (v := .agg #[.int .i64 c, .int .i64 k, .int .i64 0, .int .i64 t]) (by simp [results, Tryd.results99, go_sem, k0, k1, k2, k3]) rfl ⟨⟨_, _, _, _, rfl, gOk_in ⟨⟨hc0, hc1'⟩, hk1, ⟨ht0, ht1⟩, .inr ⟨by omega, rfl⟩⟩⟩, ?_, ?_⟩
    · exact (HC4.out.mono (by omega)).kept (grown4 W _ _ _ _ _) (fun k hk => by cases hk; omega)
    · exact grownBy_own G4.out (grown4 W _ _ _ _ _) (fun k hk => by cases hk; omega)
  · have hk3 := of_decide_eq_true HQ.out
    generalize w3.alloc (.cells #[.int .i64 c, .int .i64 k, .int .i64 0, .int .i64 t] 27 (0, 0)) = W at *
    go_wp2_with fail
    refine (pick_any B p x n cap _ W HC4.out (by omega) hn 2 (by omega) (by omega)).mono ?_
    rintro e w5 ⟨⟨v, rfl, hv0, hv1⟩, hc5, hg5⟩
    have hz5 := hg5.size
    have y2 : IntKind.i64.wrap (1 + v) = 1 + v := IntWalk.i64_in _ (by omega)
    have x5 := x3.out.kept hg5 (by first | (simp; done) | (simp; omega))
    have b5 := b4.out.kept hg5 (by first | (simp; done) | (simp; omega))
    have gs := grownBy_set w5 w3.heap.size 2 (.int .i64 (1 + v))
    have x6 := x5.set 2 (.int .i64 (1 + v))
    have b6 := b5.kept gs (by first | (simp; done) | (simp; omega))
    have HC6 := Lib.hid ((hc5.mono (M' := M + 20) (by omega)).kept gs (fun k hk => by cases hk; omega))
    have G6 := Lib.hid (grownBy_own (G4.out.trans hg5) gs (fun k hk => by cases hk; omega))
    obtain ⟨m0, m1, m2, m3, mf⟩ := x5.four
    simp only [List.set_cons_succ, List.set_cons_zero] at x6
    obtain ⟨q0, q1, q2, q3, qf⟩ := x6.four
    obtain ⟨k0, k1, k2, k3, kf⟩ := b6.four
    clear x5 b5 gs hc5 hg5 x6 b6 HC4 b4 G4 x3
    have hz6 : w5.heap.size = (w5.setCell ⟨w3.heap.size, 2, none⟩ (.int .i64 (1 + v))).heap.size := by simp
    go_wp2_with fail
    clear m0 m1 m2 m3 mf
    generalize w5.setCell ⟨w3.heap.size, 2, none⟩ (.int .i64 (1 + v)) = W6 at *
    go_wp2_with fail
    refine bodyPost_ret (v := .agg #[.int .i64 c, .int .i64 k, .int .i64 (1 + v), .int .i64 t]) (by simp [results, Tryd.results99, go_sem, k0, k1, k2, k3]) rfl ⟨⟨_, _, _, _, rfl, gOk_in ⟨⟨hc0, hc1'⟩, hk1, ⟨ht0, ht1⟩, .inl ⟨hk3, by omega, by omega⟩⟩⟩, ?_, ?_⟩
    · exact HC6.out.kept (grown4 W6 _ _ _ _ _) (fun k hk => by cases hk; omega)
    · exact grownBy_own G6.out (grown4 W6 _ _ _ _ _) (fun k hk => by cases hk; omega)
def DrewAnyG (w : World) (B p : Nat) (x : Option Addr) (n cap M : Nat) (e : Ending) (w' : World) : Prop :=
  (∃ c k a t : Int, e = .returned (.agg #[.int .i64 c, .int .i64 k, .int .i64 a, .int .i64 t])) ∧ IsCur w' B p x n cap M ∧ w.grownBy w' (some p)
set_option maxHeartbeats 8000000 in
theorem anyGroup_any (B p : Nat) (x : Option Addr) (n cap M : Nat) (w : World) (h : IsCur w B p x n cap M) (hM : M ≤ 900000) (hn : n ≤ 65536) :
    Calls Tryd.prog 74 #[.pointer (some ⟨p, 0, none⟩)] w (DrewAnyG w B p x n cap (M + 40)) := by
  have hpw := h.lt
  have HC0 := Lib.hid h
  have b0 := Lib.hid (BoxF.new w [.int .i64 0, .int .i64 0, .int .i64 0, .int .i64 0] 27)
  clear h
  go_enter Tryd.func74, Tryd.ntmps74
  go_wp2_with fail
  refine (group_any B p x n cap M _ (HC0.out.alloc _) (by omega) hn).mono ?_
  rintro e w1 ⟨⟨c, k, a, t, rfl, hF⟩, hc1, hg1⟩
  have HC1 := Lib.hid hc1
  have b1 := Lib.hid (b0.out.kept hg1 (by first | (simp; done) | (simp; omega)))
  have hz1 := hg1.size
  simp only [World.size_alloc] at hz1
  have G1 := Lib.hid ((World.grownBy_alloc w (.cells #[.int .i64 0, .int .i64 0, .int .i64 0, .int .i64 0] 27 (0, 0)) (some p)).trans hg1)
  have x1 := Lib.hid (BoxF.new w1 [.int .i64 c, .int .i64 k, .int .i64 a, .int .i64 t] 27)
  clear hc1 hg1 HC0 b0 hF
  go_wp2_with fail
  refine (pick_any B p x n cap _ _ (HC1.out.alloc _) (by omega) hn 24 (by omega) (by omega)).mono ?_
  rintro e w2 ⟨⟨r, rfl, hr0, hr1⟩, hc2, hg2⟩
  have HC2 := Lib.hid hc2
  have b2 := Lib.hid ((b1.out.alloc _).kept hg2 (by first | (simp; done) | (simp; omega)))
  have x2 := Lib.hid (x1.out.kept hg2 (by first | (simp; done) | (simp; omega)))
  have hz2 := hg2.size
  simp only [World.size_alloc] at hz2
  have G2 := Lib.hid (G1.out.trans ((World.grownBy_alloc w1 _ _).trans hg2))
  clear hc2 hg2 HC1 b1 x1 G1
  by_cases e0 : r = 0
  · have t0 : (r == 0) = true := by rw [beq_iff_eq]; exact e0
    clear e0 hr0 hr1
    go_wp2_with fail
    refine (among_p B p x n cap _ _ (HC2.out.alloc _) (by omega) hn w2.heap.size 3 3 (fun _ => True) (by omega) (by omega) (numRowP_alloc _ _ _ _ 3 rfl (by intro v hv; simp at hv; rcases hv with rfl | rfl | rfl <;> simp [isNumP])) (by have := HC2.out.lt; omega) (by rw [alloc_size]; omega)).mono ?_
    rintro e w3 ⟨⟨y, rfl, _⟩, hc3, hg3⟩
    have x3 := (x2.out.alloc _).kept hg3 (by first | (simp; done) | (simp; omega))
    have b3 := (b2.out.alloc _).kept hg3 (by first | (simp; done) | (simp; omega))
    have hz3 := hg3.size
    simp only [World.size_alloc] at hz3
    have gs := grownBy_set w3 w1.heap.size 0 (.int .i64 y)
    have x4 := x3.set 0 (.int .i64 y)
    have b4 := b3.kept gs (by first | (simp; done) | (simp; omega))
    have HC4 := Lib.hid ((hc3.mono (M' := M + 40) (by omega)).kept gs (fun k hk => by cases hk; omega))
    have G4 := Lib.hid (grownBy_own (G2.out.trans ((World.grownBy_alloc w2 _ _).trans hg3)) gs (fun k hk => by cases hk; omega))
    obtain ⟨m0, m1, m2, m3, mf⟩ := x3.four
    simp only [List.set_cons_zero] at x4
    obtain ⟨q0, q1, q2, q3, qf⟩ := x4.four
    obtain ⟨k0, k1, k2, k3, kf⟩ := b4.four
    clear hc3 hg3 x3 b3 gs x4 b4 HC2 x2 b2 G2
    have hz4 : w3.heap.size = (w3.setCell ⟨w1.heap.size, 0, none⟩ (.int .i64 y)).heap.size := by simp
    go_wp2_with fail
    clear m0 m1 m2 m3 mf
    generalize w3.setCell ⟨w1.heap.size, 0, none⟩ (.int .i64 y) = W4 at *
    go_wp2_with fail
    refine bodyPost_ret (v := .agg #[.int .i64 y, .int .i64 k, .int .i64 a, .int .i64 t]) (by simp [results, Tryd.results74, go_sem, k0, k1, k2, k3]) rfl ⟨⟨_, _, _, _, rfl⟩, ?_, ?_⟩
    · exact HC4.out.kept (grown4 W4 _ _ _ _ _) (fun k hk => by cases hk; omega)
    · exact grownBy_own G4.out (grown4 W4 _ _ _ _ _) (fun k hk => by cases hk; omega)
  · have t0 : (r == 0) = false := by rw [beq_eq_false_iff_ne]; exact e0
    by_cases e1 : r = 1
    · have t1 : (r == 1) = true := by rw [beq_iff_eq]; exact e1
      clear e0 e1 hr0 hr1
      go_wp2_with fail
      refine (among_p B p x n cap _ _ (HC2.out.alloc _) (by omega) hn w2.heap.size 4 4 (fun _ => True) (by omega) (by omega) (numRowP_alloc _ _ _ _ 4 rfl (by intro v hv; simp at hv; rcases hv with rfl | rfl | rfl | rfl <;> simp [isNumP])) (by have := HC2.out.lt; omega) (by rw [alloc_size]; omega)).mono ?_
      rintro e w3 ⟨⟨y, rfl, _⟩, hc3, hg3⟩
      have x3 := (x2.out.alloc _).kept hg3 (by first | (simp; done) | (simp; omega))
      have b3 := (b2.out.alloc _).kept hg3 (by first | (simp; done) | (simp; omega))
      have hz3 := hg3.size
      simp only [World.size_alloc] at hz3
      have gs := grownBy_set w3 w1.heap.size 1 (.int .i64 y)
      have x4 := x3.set 1 (.int .i64 y)
      have b4 := b3.kept gs (by first | (simp; done) | (simp; omega))
      have HC4 := Lib.hid ((hc3.mono (M' := M + 40) (by omega)).kept gs (fun k hk => by cases hk; omega))
      have G4 := Lib.hid (grownBy_own (G2.out.trans ((World.grownBy_alloc w2 _ _).trans hg3)) gs (fun k hk => by cases hk; omega))
      obtain ⟨m0, m1, m2, m3, mf⟩ := x3.four
      simp only [List.set_cons_succ, List.set_cons_zero] at x4
      obtain ⟨q0, q1, q2, q3, qf⟩ := x4.four
      obtain ⟨k0, k1, k2, k3, kf⟩ := b4.four
      clear hc3 hg3 x3 b3 gs x4 b4 HC2 x2 b2 G2
      have hz4 : w3.heap.size = (w3.setCell ⟨w1.heap.size, 1, none⟩ (.int .i64 y)).heap.size := by simp
      go_wp2_with fail
      clear m0 m1 m2 m3 mf
      generalize w3.setCell ⟨w1.heap.size, 1, none⟩ (.int .i64 y) = W4 at *
      go_wp2_with fail
      refine bodyPost_ret (v := .agg #[.int .i64 c, .int .i64 y, .int .i64 a, .int .i64 t]) (by simp [results, Tryd.results74, go_sem, k0, k1, k2, k3]) rfl ⟨⟨_, _, _, _, rfl⟩, ?_, ?_⟩
      · exact HC4.out.kept (grown4 W4 _ _ _ _ _) (fun k hk => by cases hk; omega)
      · exact grownBy_own G4.out (grown4 W4 _ _ _ _ _) (fun k hk => by cases hk; omega)
    · have t1 : (r == 1) = false := by rw [beq_eq_false_iff_ne]; exact e1
      by_cases e2 : r = 2
      · have t2 : (r == 2) = true := by rw [beq_iff_eq]; exact e2
        clear e0 e1 e2 hr0 hr1
        go_wp2_with fail
        refine (among_p B p x n cap _ _ (HC2.out.alloc _) (by omega) hn w2.heap.size 5 5 (fun _ => True) (by omega) (by omega) (numRowP_alloc _ _ _ _ 5 rfl (by intro v hv; simp at hv; rcases hv with rfl | rfl | rfl | rfl | rfl <;> simp [isNumP])) (by have := HC2.out.lt; omega) (by rw [alloc_size]; omega)).mono ?_
        rintro e w3 ⟨⟨y, rfl, _⟩, hc3, hg3⟩
        have x3 := (x2.out.alloc _).kept hg3 (by first | (simp; done) | (simp; omega))
        have b3 := (b2.out.alloc _).kept hg3 (by first | (simp; done) | (simp; omega))
        have hz3 := hg3.size
        simp only [World.size_alloc] at hz3
        have gs := grownBy_set w3 w1.heap.size 2 (.int .i64 y)
        have x4 := x3.set 2 (.int .i64 y)
        have b4 := b3.kept gs (by first | (simp; done) | (simp; omega))
        have HC4 := Lib.hid ((hc3.mono (M' := M + 40) (by omega)).kept gs (fun k hk => by cases hk; omega))
        have G4 := Lib.hid (grownBy_own (G2.out.trans ((World.grownBy_alloc w2 _ _).trans hg3)) gs (fun k hk => by cases hk; omega))
        obtain ⟨m0, m1, m2, m3, mf⟩ := x3.four
        simp only [List.set_cons_succ, List.set_cons_zero] at x4
        obtain ⟨q0, q1, q2, q3, qf⟩ := x4.four
        obtain ⟨k0, k1, k2, k3, kf⟩ := b4.four
        clear hc3 hg3 x3 b3 gs x4 b4 HC2 x2 b2 G2
        have hz4 : w3.heap.size = (w3.setCell ⟨w1.heap.size, 2, none⟩ (.int .i64 y)).heap.size := by simp
        go_wp2_with fail
        clear m0 m1 m2 m3 mf
        generalize w3.setCell ⟨w1.heap.size, 2, none⟩ (.int .i64 y) = W4 at *
        go_wp2_with fail
        refine bodyPost_ret (v := .agg #[.int .i64 c, .int .i64 k, .int .i64 y, .int .i64 t]) (by simp [results, Tryd.results74, go_sem, k0, k1, k2, k3]) rfl ⟨⟨_, _, _, _, rfl⟩, ?_, ?_⟩
        · exact HC4.out.kept (grown4 W4 _ _ _ _ _) (fun k hk => by cases hk; omega)
        · exact grownBy_own G4.out (grown4 W4 _ _ _ _ _) (fun k hk => by cases hk; omega)
      · have t2 : (r == 2) = false := by rw [beq_eq_false_iff_ne]; exact e2
        by_cases e3 : r = 3
        · have t3 : (r == 3) = true := by rw [beq_iff_eq]; exact e3
          clear e0 e1 e2 e3 hr0 hr1
          go_wp2_with fail
          refine (among_p B p x n cap _ _ (HC2.out.alloc _) (by omega) hn w2.heap.size 2 2 (fun _ => True) (by omega) (by omega) (numRowP_alloc _ _ _ _ 2 rfl (by intro v hv; simp at hv; rcases hv with rfl | rfl <;> simp [isNumP])) (by have := HC2.out.lt; omega) (by rw [alloc_size]; omega)).mono ?_
          rintro e w3 ⟨⟨y, rfl, _⟩, hc3, hg3⟩
          have x3 := (x2.out.alloc _).kept hg3 (by first | (simp; done) | (simp; omega))
          have b3 := (b2.out.alloc _).kept hg3 (by first | (simp; done) | (simp; omega))
          have hz3 := hg3.size
          simp only [World.size_alloc] at hz3
          have gs := grownBy_set w3 w1.heap.size 3 (.int .i64 y)
          have x4 := x3.set 3 (.int .i64 y)
          have b4 := b3.kept gs (by first | (simp; done) | (simp; omega))
          have HC4 := Lib.hid ((hc3.mono (M' := M + 40) (by omega)).kept gs (fun k hk => by cases hk; omega))
          have G4 := Lib.hid (grownBy_own (G2.out.trans ((World.grownBy_alloc w2 _ _).trans hg3)) gs (fun k hk => by cases hk; omega))
          obtain ⟨m0, m1, m2, m3, mf⟩ := x3.four
          simp only [List.set_cons_succ, List.set_cons_zero] at x4
          obtain ⟨q0, q1, q2, q3, qf⟩ := x4.four
          obtain ⟨k0, k1, k2, k3, kf⟩ := b4.four
          clear hc3 hg3 x3 b3 gs x4 b4 HC2 x2 b2 G2
          have hz4 : w3.heap.size = (w3.setCell ⟨w1.heap.size, 3, none⟩ (.int .i64 y)).heap.size := by simp
          go_wp2_with fail
          clear m0 m1 m2 m3 mf
          generalize w3.setCell ⟨w1.heap.size, 3, none⟩ (.int .i64 y) = W4 at *
          go_wp2_with fail
          refine bodyPost_ret (v := .agg #[.int .i64 c, .int .i64 k, .int .i64 a, .int .i64 y]) (by simp [results, Tryd.results74, go_sem, k0, k1, k2, k3]) rfl ⟨⟨_, _, _, _, rfl⟩, ?_, ?_⟩
          · exact HC4.out.kept (grown4 W4 _ _ _ _ _) (fun k hk => by cases hk; omega)
          · exact grownBy_own G4.out (grown4 W4 _ _ _ _ _) (fun k hk => by cases hk; omega)
        · have t3 : (r == 3) = false := by rw [beq_eq_false_iff_ne]; exact e3
          by_cases e4 : r = 4
          · have t4 : (r == 4) = true := by rw [beq_iff_eq]; exact e4
            clear e0 e1 e2 e3 e4 hr0 hr1
            obtain ⟨m0, m1, m2, m3, mf⟩ := x2.out.four
            obtain ⟨k0, k1, k2, k3, kf⟩ := b2.out.four
            go_wp2_with fail
            refine bodyPost_ret (v := .agg #[.int .i64 0, .int .i64 0, .int .i64 0, .int .i64 0]) (by simp [results, Tryd.results74, go_sem, k0, k1, k2, k3]) rfl ⟨⟨_, _, _, _, rfl⟩, ?_, ?_⟩
            · exact (HC2.out.mono (by omega)).kept (grown4 w2 _ _ _ _ _) (fun k hk => by cases hk; omega)
            · exact grownBy_own G2.out (grown4 w2 _ _ _ _ _) (fun k hk => by cases hk; omega)
          · have t4 : (r == 4) = false := by rw [beq_eq_false_iff_ne]; exact e4
            clear e0 e1 e2 e3 e4 hr0 hr1
            obtain ⟨m0, m1, m2, m3, mf⟩ := x2.out.four
            obtain ⟨k0, k1, k2, k3, kf⟩ := b2.out.four
            go_wp2_with fail
            refine bodyPost_ret (v := .agg #[.int .i64 c, .int .i64 k, .int .i64 a, .int .i64 t]) (by simp [results, Tryd.results74, go_sem, k0, k1, k2, k3]) rfl ⟨⟨_, _, _, _, rfl⟩, ?_, ?_⟩
            · exact (HC2.out.mono (by omega)).kept (grown4 w2 _ _ _ _ _) (fun k hk => by cases hk; omega)
            · exact grownBy_own G2.out (grown4 w2 _ _ _ _ _) (fun k hk => by cases hk; omega)
end Go.Proofs.YtmmbhglmafnfpabDoor
namespace Go.Proofs.YtmmbhglmafnfpabDoor
open Go.RowKit

def DrewAny (w : World) (B p : Nat) (a : Option Addr) (n cap M : Nat) (e : Ending) (w' : World) : Prop :=
  (∃ d l f s : Int, e = .returned (.agg #[.int .i64 d, .int .i64 l, .int .i64 f, .int .i64 s])) ∧ IsCur w' B p a n cap M ∧ w.grownBy w' (some p)
set_option maxHeartbeats 8000000 in
theorem anyField_any (B p : Nat) (a : Option Addr) (n cap M : Nat) (w : World) (h : IsCur w B p a n cap M) (hM : M ≤ 900000) (hn : n ≤ 65536) :
    Calls Tryd.prog 49 #[.pointer (some ⟨p, 0, none⟩)] w (DrewAny w B p a n cap (M + 40)) := by
  have hpw := h.lt
  have HC0 := Lib.hid h
  have b0 := Lib.hid (BoxF.new w [.int .i64 0, .int .i64 0, .int .i64 0, .int .i64 0] 25)
  clear h
  go_enter Tryd.func49, Tryd.ntmps49
  go_wp2_with fail
  refine (field_any B p a n cap M _ (HC0.out.alloc _) (by omega) hn).mono ?_
  rintro e w1 ⟨⟨d, l, f, s, rfl, hF⟩, hc1, hg1⟩
  have HC1 := Lib.hid hc1
  have b1 := Lib.hid (b0.out.kept hg1 (by simp; omega))
  have hz1 := hg1.size
  simp only [World.size_alloc] at hz1
  have G1 := Lib.hid ((World.grownBy_alloc w (.cells #[.int .i64 0, .int .i64 0, .int .i64 0, .int .i64 0] 25 (0, 0)) (some p)).trans hg1)
  have x1 := Lib.hid (BoxF.new w1 [.int .i64 d, .int .i64 l, .int .i64 f, .int .i64 s] 25)
  clear hc1 hg1 HC0 b0 hF
  go_wp2_with fail
  refine (pick_any B p a n cap _ _ (HC1.out.alloc _) (by omega) hn 24 (by omega) (by omega)).mono ?_
  rintro e w2 ⟨⟨r, rfl, hr0, hr1⟩, hc2, hg2⟩
  have HC2 := Lib.hid hc2
  have b2 := Lib.hid ((b1.out.alloc _).kept hg2 (by simp; omega))
  have x2 := Lib.hid (x1.out.kept hg2 (by simp; omega))
  have hz2 := hg2.size
  simp only [World.size_alloc] at hz2
  have G2 := Lib.hid (G1.out.trans ((World.grownBy_alloc w1 _ _).trans hg2))
  clear hc2 hg2 HC1 b1 x1 G1
  by_cases e0 : r = 0
  · have t0 : (r == 0) = true := by rw [beq_iff_eq]; exact e0
    clear e0 hr0 hr1
    go_wp2_with fail
    refine (among_p B p a n cap _ _ (HC2.out.alloc _) (by omega) hn w2.heap.size 5 5 (fun _ => True) (by omega) (by omega) (numRowP_alloc _ _ _ _ 5 rfl (by intro v hv; simp at hv; rcases hv with rfl | rfl | rfl | rfl | rfl <;> simp [isNumP])) (by have := HC2.out.lt; omega) (by rw [alloc_size]; omega)).mono ?_
    rintro e w3 ⟨⟨y, rfl, _⟩, hc3, hg3⟩
    have x3 := (x2.out.alloc _).kept hg3 (by simp; omega)
    have b3 := (b2.out.alloc _).kept hg3 (by simp; omega)
    have hz3 := hg3.size
    simp only [World.size_alloc] at hz3
    have gs := grownBy_set w3 w1.heap.size 0 (.int .i64 y)
    have x4 := x3.set 0 (.int .i64 y)
    have b4 := b3.kept gs (by simp; omega)
    have HC4 := Lib.hid ((hc3.mono (M' := M + 40) (by omega)).kept gs (fun k hk => by cases hk; omega))
    have G4 := Lib.hid (grownBy_own (G2.out.trans ((World.grownBy_alloc w2 _ _).trans hg3)) gs (fun k hk => by cases hk; omega))
    obtain ⟨m0, m1, m2, m3, mf⟩ := x3.four
    simp only [List.set_cons_zero] at x4
    obtain ⟨q0, q1, q2, q3, qf⟩ := x4.four
    obtain ⟨k0, k1, k2, k3, kf⟩ := b4.four
    clear hc3 hg3 x3 b3 gs x4 b4 HC2 x2 b2 G2
    have hz4 : w3.heap.size = (w3.setCell ⟨w1.heap.size, 0, none⟩ (.int .i64 y)).heap.size := by simp
    go_wp2_with fail
    clear m0 m1 m2 m3 mf
    generalize w3.setCell ⟨w1.heap.size, 0, none⟩ (.int .i64 y) = W4 at *
    go_wp2_with fail
    refine bodyPost_ret (v := .agg #[.int .i64 y, .int .i64 l, .int .i64 f, .int .i64 s]) (by simp [results, Tryd.results49, go_sem, k0, k1, k2, k3]) rfl ⟨⟨_, _, _, _, rfl⟩, ?_, ?_⟩
    · exact HC4.out.kept (grown4 W4 _ _ _ _ _) (fun k hk => by cases hk; omega)
    · exact grownBy_own G4.out (grown4 W4 _ _ _ _ _) (fun k hk => by cases hk; omega)
  · have t0 : (r == 0) = false := by rw [beq_eq_false_iff_ne]; exact e0
    by_cases e1 : r = 1
    · have t1 : (r == 1) = true := by rw [beq_iff_eq]; exact e1
      clear e0 e1 hr0 hr1
      go_wp2_with fail
      refine (among_p B p a n cap _ _ (HC2.out.alloc _) (by omega) hn w2.heap.size 4 4 (fun _ => True) (by omega) (by omega) (numRowP_alloc _ _ _ _ 4 rfl (by intro v hv; simp at hv; rcases hv with rfl | rfl | rfl | rfl <;> simp [isNumP])) (by have := HC2.out.lt; omega) (by rw [alloc_size]; omega)).mono ?_
      rintro e w3 ⟨⟨y, rfl, _⟩, hc3, hg3⟩
      have x3 := (x2.out.alloc _).kept hg3 (by simp; omega)
      have b3 := (b2.out.alloc _).kept hg3 (by simp; omega)
      have hz3 := hg3.size
      simp only [World.size_alloc] at hz3
      have gs := grownBy_set w3 w1.heap.size 1 (.int .i64 y)
      have x4 := x3.set 1 (.int .i64 y)
      have b4 := b3.kept gs (by simp; omega)
      have HC4 := Lib.hid ((hc3.mono (M' := M + 40) (by omega)).kept gs (fun k hk => by cases hk; omega))
      have G4 := Lib.hid (grownBy_own (G2.out.trans ((World.grownBy_alloc w2 _ _).trans hg3)) gs (fun k hk => by cases hk; omega))
      obtain ⟨m0, m1, m2, m3, mf⟩ := x3.four
      simp only [List.set_cons_succ, List.set_cons_zero] at x4
      obtain ⟨q0, q1, q2, q3, qf⟩ := x4.four
      obtain ⟨k0, k1, k2, k3, kf⟩ := b4.four
      clear hc3 hg3 x3 b3 gs x4 b4 HC2 x2 b2 G2
      have hz4 : w3.heap.size = (w3.setCell ⟨w1.heap.size, 1, none⟩ (.int .i64 y)).heap.size := by simp
      go_wp2_with fail
      clear m0 m1 m2 m3 mf
      generalize w3.setCell ⟨w1.heap.size, 1, none⟩ (.int .i64 y) = W4 at *
      go_wp2_with fail
      refine bodyPost_ret (v := .agg #[.int .i64 d, .int .i64 y, .int .i64 f, .int .i64 s]) (by simp [results, Tryd.results49, go_sem, k0, k1, k2, k3]) rfl ⟨⟨_, _, _, _, rfl⟩, ?_, ?_⟩
      · exact HC4.out.kept (grown4 W4 _ _ _ _ _) (fun k hk => by cases hk; omega)
      · exact grownBy_own G4.out (grown4 W4 _ _ _ _ _) (fun k hk => by cases hk; omega)
    · have t1 : (r == 1) = false := by rw [beq_eq_false_iff_ne]; exact e1
      by_cases e2 : r = 2
      · have t2 : (r == 2) = true := by rw [beq_iff_eq]; exact e2
        clear e0 e1 e2 hr0 hr1
        go_wp2_with fail
        refine (among_p B p a n cap _ _ (HC2.out.alloc _) (by omega) hn w2.heap.size 3 3 (fun _ => True) (by omega) (by omega) (numRowP_alloc _ _ _ _ 3 rfl (by intro v hv; simp at hv; rcases hv with rfl | rfl | rfl <;> simp [isNumP])) (by have := HC2.out.lt; omega) (by rw [alloc_size]; omega)).mono ?_
        rintro e w3 ⟨⟨y, rfl, _⟩, hc3, hg3⟩
        have x3 := (x2.out.alloc _).kept hg3 (by simp; omega)
        have b3 := (b2.out.alloc _).kept hg3 (by simp; omega)
        have hz3 := hg3.size
        simp only [World.size_alloc] at hz3
        have gs := grownBy_set w3 w1.heap.size 2 (.int .i64 y)
        have x4 := x3.set 2 (.int .i64 y)
        have b4 := b3.kept gs (by simp; omega)
        have HC4 := Lib.hid ((hc3.mono (M' := M + 40) (by omega)).kept gs (fun k hk => by cases hk; omega))
        have G4 := Lib.hid (grownBy_own (G2.out.trans ((World.grownBy_alloc w2 _ _).trans hg3)) gs (fun k hk => by cases hk; omega))
        obtain ⟨m0, m1, m2, m3, mf⟩ := x3.four
        simp only [List.set_cons_succ, List.set_cons_zero] at x4
        obtain ⟨q0, q1, q2, q3, qf⟩ := x4.four
        obtain ⟨k0, k1, k2, k3, kf⟩ := b4.four
        clear hc3 hg3 x3 b3 gs x4 b4 HC2 x2 b2 G2
        have hz4 : w3.heap.size = (w3.setCell ⟨w1.heap.size, 2, none⟩ (.int .i64 y)).heap.size := by simp
        go_wp2_with fail
        clear m0 m1 m2 m3 mf
        generalize w3.setCell ⟨w1.heap.size, 2, none⟩ (.int .i64 y) = W4 at *
        go_wp2_with fail
        refine bodyPost_ret (v := .agg #[.int .i64 d, .int .i64 l, .int .i64 y, .int .i64 s]) (by simp [results, Tryd.results49, go_sem, k0, k1, k2, k3]) rfl ⟨⟨_, _, _, _, rfl⟩, ?_, ?_⟩
        · exact HC4.out.kept (grown4 W4 _ _ _ _ _) (fun k hk => by cases hk; omega)
        · exact grownBy_own G4.out (grown4 W4 _ _ _ _ _) (fun k hk => by cases hk; omega)
      · have t2 : (r == 2) = false := by rw [beq_eq_false_iff_ne]; exact e2
        by_cases e3 : r = 3
        · have t3 : (r == 3) = true := by rw [beq_iff_eq]; exact e3
          clear e0 e1 e2 e3 hr0 hr1
          obtain ⟨u0, u1, u2, u3, uf⟩ := x2.out.four
          go_wp2_with fail
          clear u0 u1 u2 u3 uf
          refine (among_p B p a n cap _ _ (HC2.out.alloc _) (by omega) hn w2.heap.size 4 4 (fun _ => True) (by omega) (by omega) (numRowP_alloc _ _ _ _ 4 rfl (by intro v hv; simp at hv; rcases hv with rfl | rfl | rfl | rfl <;> simp [isNumP])) (by have := HC2.out.lt; omega) (by rw [alloc_size]; omega)).mono ?_
          rintro e w3 ⟨⟨y, rfl, _⟩, hc3, hg3⟩
          have x3 := (x2.out.alloc _).kept hg3 (by simp; omega)
          have b3 := (b2.out.alloc _).kept hg3 (by simp; omega)
          have hz3 := hg3.size
          simp only [World.size_alloc] at hz3
          have gs := grownBy_set w3 w1.heap.size 3 (.int .i64 y)
          have x4 := x3.set 3 (.int .i64 y)
          have b4 := b3.kept gs (by simp; omega)
          have HC4 := Lib.hid ((hc3.mono (M' := M + 40) (by omega)).kept gs (fun k hk => by cases hk; omega))
          have G4 := Lib.hid (grownBy_own (G2.out.trans ((World.grownBy_alloc w2 _ _).trans hg3)) gs (fun k hk => by cases hk; omega))
          obtain ⟨m0, m1, m2, m3, mf⟩ := x3.four
          simp only [List.set_cons_succ, List.set_cons_zero] at x4
          obtain ⟨q0, q1, q2, q3, qf⟩ := x4.four
          obtain ⟨k0, k1, k2, k3, kf⟩ := b4.four
          clear hc3 hg3 x3 b3 gs x4 b4 HC2 x2 b2 G2
          have hz4 : w3.heap.size = (w3.setCell ⟨w1.heap.size, 3, none⟩ (.int .i64 y)).heap.size := by simp
          go_wp2_with fail
          clear m0 m1 m2 m3 mf
          generalize w3.setCell ⟨w1.heap.size, 3, none⟩ (.int .i64 y) = W4 at *
          go_wp2_with fail
          refine bodyPost_ret (v := .agg #[.int .i64 d, .int .i64 l, .int .i64 f, .int .i64 y]) (by simp [results, Tryd.results49, go_sem, k0, k1, k2, k3]) rfl ⟨⟨_, _, _, _, rfl⟩, ?_, ?_⟩
          · exact HC4.out.kept (grown4 W4 _ _ _ _ _) (fun k hk => by cases hk; omega)
          · exact grownBy_own G4.out (grown4 W4 _ _ _ _ _) (fun k hk => by cases hk; omega)
        · have t3 : (r == 3) = false := by rw [beq_eq_false_iff_ne]; exact e3
          clear e0 e1 e2 e3 hr0 hr1
          obtain ⟨q0, q1, q2, q3, qf⟩ := x2.out.four
          obtain ⟨k0, k1, k2, k3, kf⟩ := b2.out.four
          go_wp2_with fail
          refine bodyPost_ret (v := .agg #[.int .i64 d, .int .i64 l, .int .i64 f, .int .i64 s]) (by simp [results, Tryd.results49, go_sem, k0, k1, k2, k3]) rfl ⟨⟨_, _, _, _, rfl⟩, ?_, ?_⟩
          · exact (HC2.out.mono (by omega)).kept (grown4 w2 _ _ _ _ _) (fun k hk => by cases hk; omega)
          · exact grownBy_own G2.out (grown4 w2 _ _ _ _ _) (fun k hk => by cases hk; omega)
end Go.Proofs.YtmmbhglmafnfpabDoor
namespace Go.Proofs.YtmmbhglmafnfpabDoor
open Go.RowKit

theorem rdb_of {w : World} {b o n : Nat} {spot : Option Nat} {f : Nat → Int} (hc : ∀ k, k < n → w.cell? ((⟨b, o, spot⟩ : Addr).add k) = some (.int .u8 (f k))) (hf : ∀ k, k < n → IntKind.u8.min ≤ f k ∧ f k ≤ IntKind.u8.max) : RdB w w.heap.size (some ⟨b, o, spot⟩) n := by
  intro hn
  have h0 := hc 0 hn
  have hspot : spot = none := by simpa [Addr.add] using World.cell?_spot h0
  subst hspot
  have h1 : ∀ k, k < n → w.cell? ⟨b, o + k, none⟩ = some (.int .u8 (f k)) := fun k hk => by
    have h1 := hc k hk
    have e : (⟨b, o, none⟩ : Addr).add k = ⟨b, o + k, none⟩ := by unfold Addr.add; split <;> simp_all
    rw [e] at h1
    exact h1
  exact ⟨b, o, rfl, cellI_lt (h1 0 hn), fun k hk => ⟨f k, h1 k hk, (hf k hk).1, (hf k hk).2⟩⟩

end Go.Proofs.YtmmbhglmafnfpabDoor
