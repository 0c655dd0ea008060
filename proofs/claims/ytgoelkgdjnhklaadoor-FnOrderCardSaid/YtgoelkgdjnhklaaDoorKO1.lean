/- Several small texts in one: DrawGroup, DrawAny, Spoilt, LawIn. -/
import Derived.Test.YtgoelkgdjnhklaaDoorKD
import Derived.Test.YtgoelkgdjnhklaaDoorKC
import Derived.IntWalk
import Derived.Test.YtgoelkgdjnhklaaDoorKA
namespace Go.Proofs.YtgoelkgdjnhklaaDoor
open Go.RowKit

def DrewGroup (w : World) (B p : Nat) (x : Option Addr) (n cap M : Nat) (e : Ending) (w' : World) : Prop :=
  (∃ c k a t : Int, e = .returned (.agg #[.int .i64 c, .int .i64 k, .int .i64 a, .int .i64 t]) ∧ gOkB c k a t = true) ∧ IsCur w' B p x n cap M ∧ w.grownBy w' (some p)
set_option maxHeartbeats 8000000 in
theorem group_any (B p : Nat) (x : Option Addr) (n cap M : Nat) (w : World) (h : IsCur w B p x n cap M) (hM : M ≤ 900000) (hn : n ≤ 65536) :
    Calls Tryd.prog 148 #[.pointer (some ⟨p, 0, none⟩)] w (DrewGroup w B p x n cap (M + 20)) := by
  have hpw := h.lt
  have HC0 := Lib.hid h
  have b0 := Lib.hid (BoxF.new w [.int .i64 0, .int .i64 0, .int .i64 0, .int .i64 0] 35)
  clear h
  go_enter Tryd.func148, Tryd.ntmps148
  go_wp2_with fail
  refine (among_p B p x n cap M _ ((HC0.out.alloc _).alloc _) (by omega) hn (w.heap.size + 1) 8 8 (fun y => 1 ≤ y ∧ y ≤ 6) (by omega) (by omega) (by have e := numRowP_alloc (w.alloc (.cells #[.int .i64 0, .int .i64 0, .int .i64 0, .int .i64 0] 35 (0, 0))) #[.int .i64 1, .int .i64 1, .int .i64 2, .int .i64 3, .int .i64 3, .int .i64 4, .int .i64 5, .int .i64 6] 3 (fun y => 1 ≤ y ∧ y ≤ 6) 8 rfl (by intro v hv; simp at hv; rcases hv with rfl | rfl | rfl | rfl | rfl | rfl | rfl | rfl <;> simp [isNumP]); rw [World.size_alloc] at e; exact e) (by omega) (by simp)).mono ?_
  rintro e w1 ⟨⟨c, rfl, hc0, hc1'⟩, hc1, hg1⟩
  have HC1 := Lib.hid hc1
  have b1 := Lib.hid ((b0.out.alloc _).kept hg1 (by first | (simp; done) | (simp; omega)))
  have hz1 := hg1.size
  simp only [World.size_alloc] at hz1
  have G1 := Lib.hid (((World.grownBy_alloc w (.cells #[.int .i64 0, .int .i64 0, .int .i64 0, .int .i64 0] 35 (0, 0)) (some p)).trans (World.grownBy_alloc _ _ _)).trans hg1)
  clear hc1 hg1 HC0 b0
  go_wp2_with fail
  refine (pick_any B p x n cap _ _ HC1.out (by omega) hn 8 (by omega) (by omega)).mono ?_
  rintro e w2 ⟨⟨r, rfl, hr0, hr1⟩, hc2, hg2⟩
  have HC2 := Lib.hid hc2
  have b2 := Lib.hid (b1.out.kept hg2 (by first | (simp; done) | (simp; omega)))
  have hz2 := hg2.size
  have G2 := Lib.hid (G1.out.trans hg2)
  have y1 : IntKind.i64.wrap (1 + r) = 1 + r := IntWalk.i64_in _ (by omega)
  clear hc2 hg2 HC1 b1 G1
  go_wp2_with fail
  refine (tincture_any B p x n cap _ _ HC2.out (by omega) hn).mono ?_
  rintro e w3 ⟨⟨t, rfl, ht0, ht1⟩, hc3, hg3⟩
  have HC3 := Lib.hid hc3
  have b3 := Lib.hid (b2.out.kept hg3 (by first | (simp; done) | (simp; omega)))
  have hz3 := hg3.size
  have G3 := Lib.hid (G2.out.trans hg3)
  have x3 := Lib.hid (BoxF.new w3 [.int .i64 c, .int .i64 (1 + r), .int .i64 0, .int .i64 t] 35)
  clear hc3 hg3 HC2 b2 G2 y1
  have hrb : 0 ≤ r ∧ r < 8 := by omega
  obtain ⟨k, hk⟩ : ∃ k, 1 + r = k := ⟨_, rfl⟩
  rw [hk] at x3 ⊢
  have hk1 : 1 ≤ k ∧ k ≤ 8 := by omega
  clear hk hr0 hr1 hrb
  obtain ⟨q, hq⟩ : ∃ q, decide (k ≤ 3) = q := ⟨_, rfl⟩
  have cb := fun W => l4Beast_any k W q hq
  have HQ := Lib.hid hq
  clear hq
  go_wp2_with fail
  refine (cb _).mono ?_
  rintro e w3' ⟨rfl, rfl⟩
  have HC4 := Lib.hid (HC3.out.alloc (.cells #[.int .i64 c, .int .i64 k, .int .i64 0, .int .i64 t] 35 (0, 0)))
  have b4 := Lib.hid (b3.out.alloc (.cells #[.int .i64 c, .int .i64 k, .int .i64 0, .int .i64 t] 35 (0, 0)))
  have G4 := Lib.hid (G3.out.trans (World.grownBy_alloc w3 (.cells #[.int .i64 c, .int .i64 k, .int .i64 0, .int .i64 t] 35 (0, 0)) (some p)))
  have hz4 : w3.heap.size + 1 = (w3.alloc (.cells #[.int .i64 c, .int .i64 k, .int .i64 0, .int .i64 t] 35 (0, 0))).heap.size := by simp
  clear HC3 b3 G3 cb
  cases q
  · obtain ⟨k0, k1, k2, k3, kf⟩ := b4.out.four
    obtain ⟨m0, m1, m2, m3, mf⟩ := x3.out.four
    have hk3 := of_decide_eq_false HQ.out
    generalize w3.alloc (.cells #[.int .i64 c, .int .i64 k, .int .i64 0, .int .i64 t] 35 (0, 0)) = W at *
    go_wp2_with fail
    refine bodyPost_ret (v := .agg #[.int .i64 c, .int .i64 k, .int .i64 0, .int .i64 t]) (by simp [results, Tryd.results148, go_sem, k0, k1, k2, k3]) rfl ⟨⟨_, _, _, _, rfl, gOk_in ⟨⟨hc0, hc1'⟩, hk1, ⟨ht0, ht1⟩, .inr ⟨by omega, rfl⟩⟩⟩, ?_, ?_⟩
    · exact (HC4.out.mono (by omega)).kept (grown4 W _ _ _ _ _) (fun k hk => by cases hk; omega)
    · exact grownBy_own G4.out (grown4 W _ _ _ _ _) (fun k hk => by cases hk; omega)
  · have hk3 := of_decide_eq_true HQ.out
    generalize w3.alloc (.cells #[.int .i64 c, .int .i64 k, .int .i64 0, .int .i64 t] 35 (0, 0)) = W at *
    go_wp2_with fail
    refine (pick_any B p x n cap _ W HC4.out (by omega) hn 2 (by omega) (by omega)).mono ?_
    rintro e w5 ⟨⟨v, rfl, hv0, hv1⟩, hc5, hg5⟩
    have hz5 := hg5.size
    have y2 : IntKind.i64.wrap (1 + v) = 1 + v := IntWalk.i64_in _ (by omega)
    have x5 := x3.out.kept hg5 (by first | (simp; done) | (simp; omega))
    have b5 := b4.out.kept hg5 (by first | (simp; done) | (simp; omega))
    have gs := grownBy_set w5 w3.heap.size 2 (.int .i64 (1 + v))
    have x6 := x5.set 2 (.int .i64 (1 + v))
    have b6 := b5.kept gs (by first | (simp; done) | (simp; omega))
    have HC6 := Lib.hid ((hc5.mono (M' := M + 20) (by omega)).kept gs (fun k hk => by cases hk; omega))
    have G6 := Lib.hid (grownBy_own (G4.out.trans hg5) gs (fun k hk => by cases hk; omega))
    obtain ⟨m0, m1, m2, m3, mf⟩ := x5.four
    simp only [List.set_cons_succ, List.set_cons_zero] at x6
    obtain ⟨q0, q1, q2, q3, qf⟩ := x6.four
    obtain ⟨k0, k1, k2, k3, kf⟩ := b6.four
    clear x5 b5 gs hc5 hg5 x6 b6 HC4 b4 G4 x3
    have hz6 : w5.heap.size = (w5.setCell ⟨w3.heap.size, 2, none⟩ (.int .i64 (1 + v))).heap.size := by simp
    go_wp2_with fail
    clear m0 m1 m2 m3 mf
    generalize w5.setCell ⟨w3.heap.size, 2, none⟩ (.int .i64 (1 + v)) = W6 at *
    go_wp2_with fail
    refine bodyPost_ret (v := .agg #[.int .i64 c, .int .i64 k, .int .i64 (1 + v), .int .i64 t]) (by simp [results, Tryd.results148, go_sem, k0, k1, k2, k3]) rfl ⟨⟨_, _, _, _, rfl, gOk_in ⟨⟨hc0, hc1'⟩, hk1, ⟨ht0, ht1⟩, .inl ⟨hk3, by omega, by omega⟩⟩⟩, ?_, ?_⟩
    · exact HC6.out.kept (grown4 W6 _ _ _ _ _) (fun k hk => by cases hk; omega)
    · exact grownBy_own G6.out (grown4 W6 _ _ _ _ _) (fun k hk => by cases hk; omega)
def DrewAnyG (w : World) (B p : Nat) (x : Option Addr) (n cap M : Nat) (e : Ending) (w' : World) : Prop :=
  (∃ c k a t : Int, e = .returned (.agg #[.int .i64 c, .int .i64 k, .int .i64 a, .int .i64 t])) ∧ IsCur w' B p x n cap M ∧ w.grownBy w' (some p)
set_option maxHeartbeats 8000000 in
theorem anyGroup_any (B p : Nat) (x : Option Addr) (n cap M : Nat) (w : World) (h : IsCur w B p x n cap M) (hM : M ≤ 900000) (hn : n ≤ 65536) :
    Calls Tryd.prog 135 #[.pointer (some ⟨p, 0, none⟩)] w (DrewAnyG w B p x n cap (M + 40)) := by
  have hpw := h.lt
  have HC0 := Lib.hid h
  have b0 := Lib.hid (BoxF.new w [.int .i64 0, .int .i64 0, .int .i64 0, .int .i64 0] 35)
  clear h
  go_enter Tryd.func135, Tryd.ntmps135
  go_wp2_with fail
  refine (group_any B p x n cap M _ (HC0.out.alloc _) (by omega) hn).mono ?_
  rintro e w1 ⟨⟨c, k, a, t, rfl, hF⟩, hc1, hg1⟩
  have HC1 := Lib.hid hc1
  have b1 := Lib.hid (b0.out.kept hg1 (by first | (simp; done) | (simp; omega)))
  have hz1 := hg1.size
  simp only [World.size_alloc] at hz1
  have G1 := Lib.hid ((World.grownBy_alloc w (.cells #[.int .i64 0, .int .i64 0, .int .i64 0, .int .i64 0] 35 (0, 0)) (some p)).trans hg1)
  have x1 := Lib.hid (BoxF.new w1 [.int .i64 c, .int .i64 k, .int .i64 a, .int .i64 t] 35)
  clear hc1 hg1 HC0 b0 hF
  go_wp2_with fail
  refine (pick_any B p x n cap _ _ (HC1.out.alloc _) (by omega) hn 24 (by omega) (by omega)).mono ?_
  rintro e w2 ⟨⟨r, rfl, hr0, hr1⟩, hc2, hg2⟩
  have HC2 := Lib.hid hc2
  have b2 := Lib.hid ((b1.out.alloc _).kept hg2 (by first | (simp; done) | (simp; omega)))
  have x2 := Lib.hid (x1.out.kept hg2 (by first | (simp; done) | (simp; omega)))
  have hz2 := hg2.size
  simp only [World.size_alloc] at hz2
  have G2 := Lib.hid (G1.out.trans ((World.grownBy_alloc w1 _ _).trans hg2))
  clear hc2 hg2 HC1 b1 x1 G1
  by_cases e0 : r = 0
  · have t0 : (r == 0) = true := by rw [beq_iff_eq]; exact e0
    clear e0 hr0 hr1
    go_wp2_with fail
    refine (among_p B p x n cap _ _ (HC2.out.alloc _) (by omega) hn w2.heap.size 3 3 (fun _ => True) (by omega) (by omega) (numRowP_alloc _ _ _ _ 3 rfl (by intro v hv; simp at hv; rcases hv with rfl | rfl | rfl <;> simp [isNumP])) (by have := HC2.out.lt; omega) (by rw [alloc_size]; omega)).mono ?_
    rintro e w3 ⟨⟨y, rfl, _⟩, hc3, hg3⟩
    have x3 := (x2.out.alloc _).kept hg3 (by first | (simp; done) | (simp; omega))
    have b3 := (b2.out.alloc _).kept hg3 (by first | (simp; done) | (simp; omega))
    have hz3 := hg3.size
    simp only [World.size_alloc] at hz3
    have gs := grownBy_set w3 w1.heap.size 0 (.int .i64 y)
    have x4 := x3.set 0 (.int .i64 y)
    have b4 := b3.kept gs (by first | (simp; done) | (simp; omega))
    have HC4 := Lib.hid ((hc3.mono (M' := M + 40) (by omega)).kept gs (fun k hk => by cases hk; omega))
    have G4 := Lib.hid (grownBy_own (G2.out.trans ((World.grownBy_alloc w2 _ _).trans hg3)) gs (fun k hk => by cases hk; omega))
    obtain ⟨m0, m1, m2, m3, mf⟩ := x3.four
    simp only [List.set_cons_zero] at x4
    obtain ⟨q0, q1, q2, q3, qf⟩ := x4.four
    obtain ⟨k0, k1, k2, k3, kf⟩ := b4.four
    clear hc3 hg3 x3 b3 gs x4 b4 HC2 x2 b2 G2
    have hz4 : w3.heap.size = (w3.setCell ⟨w1.heap.size, 0, none⟩ (.int .i64 y)).heap.size := by simp
    go_wp2_with fail
    clear m0 m1 m2 m3 mf
    generalize w3.setCell ⟨w1.heap.size, 0, none⟩ (.int .i64 y) = W4 at *
    go_wp2_with fail
    refine bodyPost_ret (v := .agg #[.int .i64 y, .int .i64 k, .int .i64 a, .int .i64 t]) (by simp [results, Tryd.results135, go_sem, k0, k1, k2, k3]) rfl ⟨⟨_, _, _, _, rfl⟩, ?_, ?_⟩
    · exact HC4.out.kept (grown4 W4 _ _ _ _ _) (fun k hk => by cases hk; omega)
    · exact grownBy_own G4.out (grown4 W4 _ _ _ _ _) (fun k hk => by cases hk; omega)
  · have t0 : (r == 0) = false := by rw [beq_eq_false_iff_ne]; exact e0
    by_cases e1 : r = 1
    · have t1 : (r == 1) = true := by rw [beq_iff_eq]; exact e1
      clear e0 e1 hr0 hr1
      go_wp2_with fail
      refine (among_p B p x n cap _ _ (HC2.out.alloc _) (by omega) hn w2.heap.size 4 4 (fun _ => True) (by omega) (by omega) (numRowP_alloc _ _ _ _ 4 rfl (by intro v hv; simp at hv; rcases hv with rfl | rfl | rfl | rfl <;> simp [isNumP])) (by have := HC2.out.lt; omega) (by rw [alloc_size]; omega)).mono ?_
      rintro e w3 ⟨⟨y, rfl, _⟩, hc3, hg3⟩
      have x3 := (x2.out.alloc _).kept hg3 (by first | (simp; done) | (simp; omega))
      have b3 := (b2.out.alloc _).kept hg3 (by first | (simp; done) | (simp; omega))
      have hz3 := hg3.size
      simp only [World.size_alloc] at hz3
      have gs := grownBy_set w3 w1.heap.size 1 (.int .i64 y)
      have x4 := x3.set 1 (.int .i64 y)
      have b4 := b3.kept gs (by first | (simp; done) | (simp; omega))
      have HC4 := Lib.hid ((hc3.mono (M' := M + 40) (by omega)).kept gs (fun k hk => by cases hk; omega))
      have G4 := Lib.hid (grownBy_own (G2.out.trans ((World.grownBy_alloc w2 _ _).trans hg3)) gs (fun k hk => by cases hk; omega))
      obtain ⟨m0, m1, m2, m3, mf⟩ := x3.four
      simp only [List.set_cons_succ, List.set_cons_zero] at x4
      obtain ⟨q0, q1, q2, q3, qf⟩ := x4.four
      obtain ⟨k0, k1, k2, k3, kf⟩ := b4.four
      clear hc3 hg3 x3 b3 gs x4 b4 HC2 x2 b2 G2
      have hz4 : w3.heap.size = (w3.setCell ⟨w1.heap.size, 1, none⟩ (.int .i64 y)).heap.size := by simp
      go_wp2_with fail
      clear m0 m1 m2 m3 mf
      generalize w3.setCell ⟨w1.heap.size, 1, none⟩ (.int .i64 y) = W4 at *
      go_wp2_with fail
      refine bodyPost_ret (v := .agg #[.int .i64 c, .int .i64 y, .int .i64 a, .int .i64 t]) (by simp [results, Tryd.results135, go_sem, k0, k1, k2, k3]) rfl ⟨⟨_, _, _, _, rfl⟩, ?_, ?_⟩
      · exact HC4.out.kept (grown4 W4 _ _ _ _ _) (fun k hk => by cases hk; omega)
      · exact grownBy_own G4.out (grown4 W4 _ _ _ _ _) (fun k hk => by cases hk; omega)
    · have t1 : (r == 1) = false := by rw [beq_eq_false_iff_ne]; exact e1
      by_cases e2 : r = 2
      · have t2 : (r == 2) = true := by rw [beq_iff_eq]; exact e2
        clear e0 e1 e2 hr0 hr1
        go_wp2_with fail
        refine (among_p B p x n cap _ _ (HC2.out.alloc _) (by omega) hn w2.heap.size 5 5 (fun _ => True) (by omega) (by omega) (numRowP_alloc _ _ _ _ 5 rfl (by intro v hv; simp at hv; rcases hv with rfl | rfl | rfl | rfl | rfl <;> simp [isNumP])) (by have := HC2.out.lt; omega) (by rw [alloc_size]; omega)).mono ?_
        rintro e w3 ⟨⟨y, rfl, _⟩, hc3, hg3⟩
        have x3 := (x2.out.alloc _).kept hg3 (by first | (simp; done) | (simp; omega))
        have b3 := (b2.out.alloc _).kept hg3 (by first | (simp; done) | (simp; omega))
        have hz3 := hg3.size
        simp only [World.size_alloc] at hz3
        have gs := grownBy_set w3 w1.heap.size 2 (.int .i64 y)
        have x4 := x3.set 2 (.int .i64 y)
        have b4 := b3.kept gs (by first | (simp; done) | (simp; omega))
        have HC4 := Lib.hid ((hc3.mono (M' := M + 40) (by omega)).kept gs (fun k hk => by cases hk; omega))
        have G4 := Lib.hid (grownBy_own (G2.out.trans ((World.grownBy_alloc w2 _ _).trans hg3)) gs (fun k hk => by cases hk; omega))
        obtain ⟨m0, m1, m2, m3, mf⟩ := x3.four
        simp only [List.set_cons_succ, List.set_cons_zero] at x4
        obtain ⟨q0, q1, q2, q3, qf⟩ := x4.four
        obtain ⟨k0, k1, k2, k3, kf⟩ := b4.four
        clear hc3 hg3 x3 b3 gs x4 b4 HC2 x2 b2 G2
        have hz4 : w3.heap.size = (w3.setCell ⟨w1.heap.size, 2, none⟩ (.int .i64 y)).heap.size := by simp
        go_wp2_with fail
        clear m0 m1 m2 m3 mf
        generalize w3.setCell ⟨w1.heap.size, 2, none⟩ (.int .i64 y) = W4 at *
        go_wp2_with fail
        refine bodyPost_ret (v := .agg #[.int .i64 c, .int .i64 k, .int .i64 y, .int .i64 t]) (by simp [results, Tryd.results135, go_sem, k0, k1, k2, k3]) rfl ⟨⟨_, _, _, _, rfl⟩, ?_, ?_⟩
        · exact HC4.out.kept (grown4 W4 _ _ _ _ _) (fun k hk => by cases hk; omega)
        · exact grownBy_own G4.out (grown4 W4 _ _ _ _ _) (fun k hk => by cases hk; omega)
      · have t2 : (r == 2) = false := by rw [beq_eq_false_iff_ne]; exact e2
        by_cases e3 : r = 3
        · have t3 : (r == 3) = true := by rw [beq_iff_eq]; exact e3
          clear e0 e1 e2 e3 hr0 hr1
          go_wp2_with fail
          refine (among_p B p x n cap _ _ (HC2.out.alloc _) (by omega) hn w2.heap.size 2 2 (fun _ => True) (by omega) (by omega) (numRowP_alloc _ _ _ _ 2 rfl (by intro v hv; simp at hv; rcases hv with rfl | rfl <;> simp [isNumP])) (by have := HC2.out.lt; omega) (by rw [alloc_size]; omega)).mono ?_
          rintro e w3 ⟨⟨y, rfl, _⟩, hc3, hg3⟩
          have x3 := (x2.out.alloc _).kept hg3 (by first | (simp; done) | (simp; omega))
          have b3 := (b2.out.alloc _).kept hg3 (by first | (simp; done) | (simp; omega))
          have hz3 := hg3.size
          simp only [World.size_alloc] at hz3
          have gs := grownBy_set w3 w1.heap.size 3 (.int .i64 y)
          have x4 := x3.set 3 (.int .i64 y)
          have b4 := b3.kept gs (by first | (simp; done) | (simp; omega))
          have HC4 := Lib.hid ((hc3.mono (M' := M + 40) (by omega)).kept gs (fun k hk => by cases hk; omega))
          have G4 := Lib.hid (grownBy_own (G2.out.trans ((World.grownBy_alloc w2 _ _).trans hg3)) gs (fun k hk => by cases hk; omega))
          obtain ⟨m0, m1, m2, m3, mf⟩ := x3.four
          simp only [List.set_cons_succ, List.set_cons_zero] at x4
          obtain ⟨q0, q1, q2, q3, qf⟩ := x4.four
          obtain ⟨k0, k1, k2, k3, kf⟩ := b4.four
          clear hc3 hg3 x3 b3 gs x4 b4 HC2 x2 b2 G2
          have hz4 : w3.heap.size = (w3.setCell ⟨w1.heap.size, 3, none⟩ (.int .i64 y)).heap.size := by simp
          go_wp2_with fail
          clear m0 m1 m2 m3 mf
          generalize w3.setCell ⟨w1.heap.size, 3, none⟩ (.int .i64 y) = W4 at *
          go_wp2_with fail
          refine bodyPost_ret (v := .agg #[.int .i64 c, .int .i64 k, .int .i64 a, .int .i64 y]) (by simp [results, Tryd.results135, go_sem, k0, k1, k2, k3]) rfl ⟨⟨_, _, _, _, rfl⟩, ?_, ?_⟩
          · exact HC4.out.kept (grown4 W4 _ _ _ _ _) (fun k hk => by cases hk; omega)
          · exact grownBy_own G4.out (grown4 W4 _ _ _ _ _) (fun k hk => by cases hk; omega)
        · have t3 : (r == 3) = false := by rw [beq_eq_false_iff_ne]; exact e3
          by_cases e4 : r = 4
          · have t4 : (r == 4) = true := by rw [beq_iff_eq]; exact e4
            clear e0 e1 e2 e3 e4 hr0 hr1
            obtain ⟨m0, m1, m2, m3, mf⟩ := x2.out.four
            obtain ⟨k0, k1, k2, k3, kf⟩ := b2.out.four
            go_wp2_with fail
            refine bodyPost_ret (v := .agg #[.int .i64 0, .int .i64 0, .int .i64 0, .int .i64 0]) (by simp [results, Tryd.results135, go_sem, k0, k1, k2, k3]) rfl ⟨⟨_, _, _, _, rfl⟩, ?_, ?_⟩
            · exact (HC2.out.mono (by omega)).kept (grown4 w2 _ _ _ _ _) (fun k hk => by cases hk; omega)
            · exact grownBy_own G2.out (grown4 w2 _ _ _ _ _) (fun k hk => by cases hk; omega)
          · have t4 : (r == 4) = false := by rw [beq_eq_false_iff_ne]; exact e4
            clear e0 e1 e2 e3 e4 hr0 hr1
            obtain ⟨m0, m1, m2, m3, mf⟩ := x2.out.four
            obtain ⟨k0, k1, k2, k3, kf⟩ := b2.out.four
            go_wp2_with fail
            refine bodyPost_ret (v := .agg #[.int .i64 c, .int .i64 k, .int .i64 a, .int .i64 t]) (by simp [results, Tryd.results135, go_sem, k0, k1, k2, k3]) rfl ⟨⟨_, _, _, _, rfl⟩, ?_, ?_⟩
            · exact (HC2.out.mono (by omega)).kept (grown4 w2 _ _ _ _ _) (fun k hk => by cases hk; omega)
            · exact grownBy_own G2.out (grown4 w2 _ _ _ _ _) (fun k hk => by cases hk; omega)
end Go.Proofs.YtgoelkgdjnhklaaDoor
namespace Go.Proofs.YtgoelkgdjnhklaaDoor
open Go.RowKit

def DrewAny (w : World) (B p : Nat) (a : Option Addr) (n cap M : Nat) (e : Ending) (w' : World) : Prop :=
  (∃ d l f s : Int, e = .returned (.agg #[.int .i64 d, .int .i64 l, .int .i64 f, .int .i64 s])) ∧ IsCur w' B p a n cap M ∧ w.grownBy w' (some p)
set_option maxHeartbeats 8000000 in
theorem anyField_any (B p : Nat) (a : Option Addr) (n cap M : Nat) (w : World) (h : IsCur w B p a n cap M) (hM : M ≤ 900000) (hn : n ≤ 65536) :
    Calls Tryd.prog 110 #[.pointer (some ⟨p, 0, none⟩)] w (DrewAny w B p a n cap (M + 40)) := by
  have hpw := h.lt
  have HC0 := Lib.hid h
  have b0 := Lib.hid (BoxF.new w [.int .i64 0, .int .i64 0, .int .i64 0, .int .i64 0] 33)
  clear h
  go_enter Tryd.func110, Tryd.ntmps110
  go_wp2_with fail
  refine (field_any B p a n cap M _ (HC0.out.alloc _) (by omega) hn).mono ?_
  rintro e w1 ⟨⟨d, l, f, s, rfl, hF⟩, hc1, hg1⟩
  have HC1 := Lib.hid hc1
  have b1 := Lib.hid (b0.out.kept hg1 (by simp; omega))
  have hz1 := hg1.size
  simp only [World.size_alloc] at hz1
  have G1 := Lib.hid ((World.grownBy_alloc w (.cells #[.int .i64 0, .int .i64 0, .int .i64 0, .int .i64 0] 33 (0, 0)) (some p)).trans hg1)
  have x1 := Lib.hid (BoxF.new w1 [.int .i64 d, .int .i64 l, .int .i64 f, .int .i64 s] 33)
  clear hc1 hg1 HC0 b0 hF
  go_wp2_with fail
  refine (pick_any B p a n cap _ _ (HC1.out.alloc _) (by omega) hn 24 (by omega) (by omega)).mono ?_
  rintro e w2 ⟨⟨r, rfl, hr0, hr1⟩, hc2, hg2⟩
  have HC2 := Lib.hid hc2
  have b2 := Lib.hid ((b1.out.alloc _).kept hg2 (by simp; omega))
  have x2 := Lib.hid (x1.out.kept hg2 (by simp; omega))
  have hz2 := hg2.size
  simp only [World.size_alloc] at hz2
  have G2 := Lib.hid (G1.out.trans ((World.grownBy_alloc w1 _ _).trans hg2))
  clear hc2 hg2 HC1 b1 x1 G1
  by_cases e0 : r = 0
  · have t0 : (r == 0) = true := by rw [beq_iff_eq]; exact e0
    clear e0 hr0 hr1
    go_wp2_with fail
    refine (among_p B p a n cap _ _ (HC2.out.alloc _) (by omega) hn w2.heap.size 5 5 (fun _ => True) (by omega) (by omega) (numRowP_alloc _ _ _ _ 5 rfl (by intro v hv; simp at hv; rcases hv with rfl | rfl | rfl | rfl | rfl <;> simp [isNumP])) (by have := HC2.out.lt; omega) (by rw [alloc_size]; omega)).mono ?_
    rintro e w3 ⟨⟨y, rfl, _⟩, hc3, hg3⟩
    have x3 := (x2.out.alloc _).kept hg3 (by simp; omega)
    have b3 := (b2.out.alloc _).kept hg3 (by simp; omega)
    have hz3 := hg3.size
    simp only [World.size_alloc] at hz3
    have gs := grownBy_set w3 w1.heap.size 0 (.int .i64 y)
    have x4 := x3.set 0 (.int .i64 y)
    have b4 := b3.kept gs (by simp; omega)
    have HC4 := Lib.hid ((hc3.mono (M' := M + 40) (by omega)).kept gs (fun k hk => by cases hk; omega))
    have G4 := Lib.hid (grownBy_own (G2.out.trans ((World.grownBy_alloc w2 _ _).trans hg3)) gs (fun k hk => by cases hk; omega))
    obtain ⟨m0, m1, m2, m3, mf⟩ := x3.four
    simp only [List.set_cons_zero] at x4
    obtain ⟨q0, q1, q2, q3, qf⟩ := x4.four
    obtain ⟨k0, k1, k2, k3, kf⟩ := b4.four
    clear hc3 hg3 x3 b3 gs x4 b4 HC2 x2 b2 G2
    have hz4 : w3.heap.size = (w3.setCell ⟨w1.heap.size, 0, none⟩ (.int .i64 y)).heap.size := by simp
    go_wp2_with fail
    clear m0 m1 m2 m3 mf
    generalize w3.setCell ⟨w1.heap.size, 0, none⟩ (.int .i64 y) = W4 at *
    go_wp2_with fail
    refine bodyPost_ret (v := .agg #[.int .i64 y, .int .i64 l, .int .i64 f, .int .i64 s]) (by simp [results, Tryd.results110, go_sem, k0, k1, k2, k3]) rfl ⟨⟨_, _, _, _, rfl⟩, ?_, ?_⟩
    · exact HC4.out.kept (grown4 W4 _ _ _ _ _) (fun k hk => by cases hk; omega)
    · exact grownBy_own G4.out (grown4 W4 _ _ _ _ _) (fun k hk => by cases hk; omega)
  · have t0 : (r == 0) = false := by rw [beq_eq_false_iff_ne]; exact e0
    by_cases e1 : r = 1
    · have t1 : (r == 1) = true := by rw [beq_iff_eq]; exact e1
      clear e0 e1 hr0 hr1
      go_wp2_with fail
      refine (among_p B p a n cap _ _ (HC2.out.alloc _) (by omega) hn w2.heap.size 4 4 (fun _ => True) (by omega) (by omega) (numRowP_alloc _ _ _ _ 4 rfl (by intro v hv; simp at hv; rcases hv with rfl | rfl | rfl | rfl <;> simp [isNumP])) (by have := HC2.out.lt; omega) (by rw [alloc_size]; omega)).mono ?_
      rintro e w3 ⟨⟨y, rfl, _⟩, hc3, hg3⟩
      have x3 := (x2.out.alloc _).kept hg3 (by simp; omega)
      have b3 := (b2.out.alloc _).kept hg3 (by simp; omega)
      have hz3 := hg3.size
      simp only [World.size_alloc] at hz3
      have gs := grownBy_set w3 w1.heap.size 1 (.int .i64 y)
      have x4 := x3.set 1 (.int .i64 y)
      have b4 := b3.kept gs (by simp; omega)
      have HC4 := Lib.hid ((hc3.mono (M' := M + 40) (by omega)).kept gs (fun k hk => by cases hk; omega))
      have G4 := Lib.hid (grownBy_own (G2.out.trans ((World.grownBy_alloc w2 _ _).trans hg3)) gs (fun k hk => by cases hk; omega))
      obtain ⟨m0, m1, m2, m3, mf⟩ := x3.four
      simp only [List.set_cons_succ, List.set_cons_zero] at x4
      obtain ⟨q0, q1, q2, q3, qf⟩ := x4.four
      obtain ⟨k0, k1, k2, k3, kf⟩ := b4.four
      clear hc3 hg3 x3 b3 gs x4 b4 HC2 x2 b2 G2
      have hz4 : w3.heap.size = (w3.setCell ⟨w1.heap.size, 1, none⟩ (.int .i64 y)).heap.size := by simp
      go_wp2_with fail
      clear m0 m1 m2 m3 mf
      generalize w3.setCell ⟨w1.heap.size, 1, none⟩ (.int .i64 y) = W4 at *
      go_wp2_with fail
      refine bodyPost_ret (v := .agg #[.int .i64 d, .int .i64 y, .int .i64 f, .int .i64 s]) (by simp [results, Tryd.results110, go_sem, k0, k1, k2, k3]) rfl ⟨⟨_, _, _, _, rfl⟩, ?_, ?_⟩
      · exact HC4.out.kept (grown4 W4 _ _ _ _ _) (fun k hk => by cases hk; omega)
      · exact grownBy_own G4.out (grown4 W4 _ _ _ _ _) (fun k hk => by cases hk; omega)
    · have t1 : (r == 1) = false := by rw [beq_eq_false_iff_ne]; exact e1
      by_cases e2 : r = 2
      · have t2 : (r == 2) = true := by rw [beq_iff_eq]; exact e2
        clear e0 e1 e2 hr0 hr1
        go_wp2_with fail
        refine (among_p B p a n cap _ _ (HC2.out.alloc _) (by omega) hn w2.heap.size 3 3 (fun _ => True) (by omega) (by omega) (numRowP_alloc _ _ _ _ 3 rfl (by intro v hv; simp at hv; rcases hv with rfl | rfl | rfl <;> simp [isNumP])) (by have := HC2.out.lt; omega) (by rw [alloc_size]; omega)).mono ?_
        rintro e w3 ⟨⟨y, rfl, _⟩, hc3, hg3⟩
        have x3 := (x2.out.alloc _).kept hg3 (by simp; omega)
        have b3 := (b2.out.alloc _).kept hg3 (by simp; omega)
        have hz3 := hg3.size
        simp only [World.size_alloc] at hz3
        have gs := grownBy_set w3 w1.heap.size 2 (.int .i64 y)
        have x4 := x3.set 2 (.int .i64 y)
        have b4 := b3.kept gs (by simp; omega)
        have HC4 := Lib.hid ((hc3.mono (M' := M + 40) (by omega)).kept gs (fun k hk => by cases hk; omega))
        have G4 := Lib.hid (grownBy_own (G2.out.trans ((World.grownBy_alloc w2 _ _).trans hg3)) gs (fun k hk => by cases hk; omega))
        obtain ⟨m0, m1, m2, m3, mf⟩ := x3.four
        simp only [List.set_cons_succ, List.set_cons_zero] at x4
        obtain ⟨q0, q1, q2, q3, qf⟩ := x4.four
        obtain ⟨k0, k1, k2, k3, kf⟩ := b4.four
        clear hc3 hg3 x3 b3 gs x4 b4 HC2 x2 b2 G2
        have hz4 : w3.heap.size = (w3.setCell ⟨w1.heap.size, 2, none⟩ (.int .i64 y)).heap.size := by simp
        go_wp2_with fail
        clear m0 m1 m2 m3 mf
        generalize w3.setCell ⟨w1.heap.size, 2, none⟩ (.int .i64 y) = W4 at *
        go_wp2_with fail
        refine bodyPost_ret (v := .agg #[.int .i64 d, .int .i64 l, .int .i64 y, .int .i64 s]) (by simp [results, Tryd.results110, go_sem, k0, k1, k2, k3]) rfl ⟨⟨_, _, _, _, rfl⟩, ?_, ?_⟩
        · exact HC4.out.kept (grown4 W4 _ _ _ _ _) (fun k hk => by cases hk; omega)
        · exact grownBy_own G4.out (grown4 W4 _ _ _ _ _) (fun k hk => by cases hk; omega)
      · have t2 : (r == 2) = false := by rw [beq_eq_false_iff_ne]; exact e2
        by_cases e3 : r = 3
        · have t3 : (r == 3) = true := by rw [beq_iff_eq]; exact e3
          clear e0 e1 e2 e3 hr0 hr1
          obtain ⟨u0, u1, u2, u3, uf⟩ := x2.out.four
          go_wp2_with fail
          clear u0 u1 u2 u3 uf
          refine (among_p B p a n cap _ _ (HC2.out.alloc _) (by omega) hn w2.heap.size 4 4 (fun _ => True) (by omega) (by omega) (numRowP_alloc _ _ _ _ 4 rfl (by intro v hv; simp at hv; rcases hv with rfl | rfl | rfl | rfl <;> simp [isNumP])) (by have := HC2.out.lt; omega) (by rw [alloc_size]; omega)).mono ?_
          rintro e w3 ⟨⟨y, rfl, _⟩, hc3, hg3⟩
          have x3 := (x2.out.alloc _).kept hg3 (by simp; omega)
          have b3 := (b2.out.alloc _).kept hg3 (by simp; omega)
          have hz3 := hg3.size
          simp only [World.size_alloc] at hz3
          have gs := grownBy_set w3 w1.heap.size 3 (.int .i64 y)
          have x4 := x3.set 3 (.int .i64 y)
          have b4 := b3.kept gs (by simp; omega)
          have HC4 := Lib.hid ((hc3.mono (M' := M + 40) (by omega)).kept gs (fun k hk => by cases hk; omega))
          have G4 := Lib.hid (grownBy_own (G2.out.trans ((World.grownBy_alloc w2 _ _).trans hg3)) gs (fun k hk => by cases hk; omega))
          obtain ⟨m0, m1, m2, m3, mf⟩ := x3.four
          simp only [List.set_cons_succ, List.set_cons_zero] at x4
          obtain ⟨q0, q1, q2, q3, qf⟩ := x4.four
          obtain ⟨k0, k1, k2, k3, kf⟩ := b4.four
          clear hc3 hg3 x3 b3 gs x4 b4 HC2 x2 b2 G2
          have hz4 : w3.heap.size = (w3.setCell ⟨w1.heap.size, 3, none⟩ (.int .i64 y)).heap.size := by simp
          go_wp2_with fail
          clear m0 m1 m2 m3 mf
          generalize w3.setCell ⟨w1.heap.size, 3, none⟩ (.int .i64 y) = W4 at *
          go_wp2_with fail
          refine bodyPost_ret (v := .agg #[.int .i64 d, .int .i64 l, .int .i64 f, .int .i64 y]) (by simp [results, Tryd.results110, go_sem, k0, k1, k2, k3]) rfl ⟨⟨_, _, _, _, rfl⟩, ?_, ?_⟩
          · exact HC4.out.kept (grown4 W4 _ _ _ _ _) (fun k hk => by cases hk; omega)
          · exact grownBy_own G4.out (grown4 W4 _ _ _ _ _) (fun k hk => by cases hk; omega)
        · have t3 : (r == 3) = false := by rw [beq_eq_false_iff_ne]; exact e3
          clear e0 e1 e2 e3 hr0 hr1
          obtain ⟨q0, q1, q2, q3, qf⟩ := x2.out.four
          obtain ⟨k0, k1, k2, k3, kf⟩ := b2.out.four
          go_wp2_with fail
          refine bodyPost_ret (v := .agg #[.int .i64 d, .int .i64 l, .int .i64 f, .int .i64 s]) (by simp [results, Tryd.results110, go_sem, k0, k1, k2, k3]) rfl ⟨⟨_, _, _, _, rfl⟩, ?_, ?_⟩
          · exact (HC2.out.mono (by omega)).kept (grown4 w2 _ _ _ _ _) (fun k hk => by cases hk; omega)
          · exact grownBy_own G2.out (grown4 w2 _ _ _ _ _) (fun k hk => by cases hk; omega)
end Go.Proofs.YtgoelkgdjnhklaaDoor
namespace Go.Proofs.YtgoelkgdjnhklaaDoor
open Go.RowKit

theorem rdb_of {w : World} {b o n : Nat} {spot : Option Nat} {f : Nat → Int} (hc : ∀ k, k < n → w.cell? ((⟨b, o, spot⟩ : Addr).add k) = some (.int .u8 (f k))) (hf : ∀ k, k < n → IntKind.u8.min ≤ f k ∧ f k ≤ IntKind.u8.max) : RdB w w.heap.size (some ⟨b, o, spot⟩) n := by
  intro hn
  have h0 := hc 0 hn
  have hspot : spot = none := by simpa [Addr.add] using World.cell?_spot h0
  subst hspot
  have h1 : ∀ k, k < n → w.cell? ⟨b, o + k, none⟩ = some (.int .u8 (f k)) := fun k hk => by
    have h1 := hc k hk
    have e : (⟨b, o, none⟩ : Addr).add k = ⟨b, o + k, none⟩ := by unfold Addr.add; split <;> simp_all
    rw [e] at h1
    exact h1
  exact ⟨b, o, rfl, cellI_lt (h1 0 hn), fun k hk => ⟨f k, h1 k hk, (hf k hk).1, (hf k hk).2⟩⟩

theorem vBig_any (a : Option Addr) (n cap : Nat) (w : World) :
    Calls Tryd.prog 14 #[.slice a n cap] w fun e w' => e = .returned (.bool (decide ((65536 : Int) < (n : Int)))) ∧ w = w' := by
  go_enter Tryd.func14, Tryd.ntmps14
  go_wp2_with fail
  go_ret
  exact ⟨rfl, rfl⟩

set_option maxHeartbeats 1000000 in
theorem vInts_true (X : List Int) (n : Nat) (a1 a2 : Option Addr) (c1 c2 : Nat) (w : World) (h1 : RdI w a1 n X) (h2 : RdI w a2 n X) (hn : n ≤ 1048577) :
    Calls Tryd.prog 18 #[.slice a1 n c1, .slice a2 n c2] w fun e w' => e = .returned (.bool true) ∧ ∃ m, w' = w.drewN m := by
  rcases Nat.eq_zero_or_pos n with h0 | h0
  · subst h0
    clear h1 h2
    go_enter Tryd.func18, Tryd.ntmps18
    go_wp2
    refine wp_loop_rounds 1 ?_
    rw [rounds_succ]
    go_wp2
    go_ret
    exact ⟨rfl, 0, rfl⟩
  · obtain ⟨b1, o1, rfl, _, hc1⟩ := h1.2 h0
    obtain ⟨b2, o2, rfl, _, hc2⟩ := h2.2 h0
    have HL := Lib.hid h1.1
    clear h1 h2
    have H1 := Lib.hid hc1
    have H2 := Lib.hid hc2
    clear hc1 hc2
    go_enter Tryd.func18, Tryd.ntmps18
    go_wp2
    go_loopw [5] (fun i wr => ∃ k q : Nat, k ≤ n ∧ i = .int .i64 k ∧ wr = w.drewN q) (fun i _ => n - (intOf i).toNat)
    case atStart => exact ⟨0, 0, Nat.zero_le _, rfl, rfl⟩
    case round =>
      obtain ⟨k, q, hk, rfl, rfl⟩ := hrel
      by_cases hlt : k < n
      · obtain ⟨x, hx, _⟩ := atI_of_lt HL.out hlt
        have g1 := rdI_at H1.out hlt hx
        have g2 := rdI_at H2.out hlt hx
        clear hx
        go_wp2
        go_quiet (fail)
        go_wp2
        go_roundw
        case rel => exact ⟨k + 1, _, by omega, by go_num, rfl⟩
        case measure => simp [intOf]; omega
      · go_wp2
        go_ret
        exact ⟨rfl, q, rfl⟩
end Go.Proofs.YtgoelkgdjnhklaaDoor
namespace Go.Proofs.YtgoelkgdjnhklaaDoor
open Go.RowKit

set_option maxHeartbeats 4000000 in
theorem spoilt_any (B p : Nat) (a : Option Addr) (n cap M : Nat) (w : World) (h : IsCur w B p a n cap M) (hM : M ≤ 900000) (hn : n ≤ 65536) (t u : ByteArray) (ht : t.size ≤ 100000) (hu0 : 1 ≤ u.size) (hu : u.size ≤ 1000) :
    Calls Tryd.prog 103 #[.pointer (some ⟨p, 0, none⟩), .string t, .string u] w fun e w' => (∃ s : ByteArray, e = .returned (.string s) ∧ s.size ≤ t.size + 1) ∧ IsCur w' B p a n cap (M + 10) ∧ w.grownBy w' (some p) := by
  have HC0 := Lib.hid h
  have hpw := h.lt
  clear h
  by_cases h0 : t.size = 0
  · have e0 : t = ByteArray.empty := by
      apply ByteArray.ext
      apply Array.toList_inj.1
      exact List.eq_nil_of_length_eq_zero (by simpa using h0)
    subst e0
    clear h0
    go_enter Tryd.func103, Tryd.ntmps103
    go_wp2_with fail
    go_ret
    exact ⟨⟨_, rfl, by simp only [ByteArray.size_extract]; omega⟩, HC0.out.mono (by omega), grownBy_refl _ _⟩
  · have e0 : (t.toList == []) = false := by
      rw [ByteArray.toList_eq]
      cases hx : t.data.toList with
      | nil => exact absurd (by have := congrArg List.length hx; simpa using this) h0
      | cons _ _ => rfl
    have e1 : t.toList.isEmpty = false := by
      rw [ByteArray.toList_eq]
      cases hx : t.data.toList with
      | nil => exact absurd (by have := congrArg List.length hx; simpa using this) h0
      | cons _ _ => rfl
    have hpos : 0 < t.size := by omega
    clear h0
    go_enter Tryd.func103, Tryd.ntmps103
    go_wp2_with fail
    refine (pick_any B p a n cap M w HC0.out (by omega) hn (t.size : Int) (by omega) (by omega)).mono ?_
    rintro e w1 ⟨⟨i, rfl, hi0, hi1⟩, hc1, hg1⟩
    obtain ⟨i, rfl⟩ : ∃ j : Nat, i = j := ⟨i.toNat, by omega⟩
    have hi : i < t.size := by omega
    have HC1 := Lib.hid hc1
    have HG1 := Lib.hid hg1
    clear hc1 hi1 hg1
    go_wp2_with fail
    refine (pick_any B p a n cap _ w1 HC1.out (by omega) hn (u.size : Int) (by omega) (by omega)).mono ?_
    rintro e w2 ⟨⟨k, rfl, hk0, hk1⟩, hc2, hg2⟩
    obtain ⟨k, rfl⟩ : ∃ j : Nat, k = j := ⟨k.toNat, by omega⟩
    have hk : k < u.size := by omega
    have HC2 := Lib.hid hc2
    have HG2 := Lib.hid (HG1.out.trans hg2)
    clear hc2 hk1 hg2 HC1 HG1
    go_wp2_with fail
    have hv : ((u.extract k u.size).extract 0 1).size ≤ 1 := by simp only [ByteArray.size_extract]; omega
    generalize (u.extract k u.size).extract 0 1 = v at *
    refine (pick_any B p a n cap _ w2 HC2.out (by omega) hn 3 (by omega) (by omega)).mono ?_
    rintro e w3 ⟨⟨c, rfl, hc0, hc1⟩, hc3, hg3⟩
    have HC3 := Lib.hid (hc3.mono (M' := M + 10) (by omega))
    have HG3 := Lib.hid (HG2.out.trans hg3)
    clear hc3 hg3 HC2 HG2
    have s1 : IntKind.i64.wrap ((i : Int) + 1) = (i : Int) + 1 := IntWalk.i64_in _ (by omega)
    have s2 : (0 : Int) ≤ (i : Int) + 1 := by omega
    have s3 : ((i : Int) + 1).toNat = i + 1 := by omega
    have s4 : (i : Int) ≤ (t.size : Int) := by omega
    have s5 : (i : Int) + 1 ≤ (t.size : Int) := by omega
    by_cases c0 : c = 0
    · have t0 : (c == 0) = true := by rw [beq_iff_eq]; exact c0
      clear c0 hc0 hc1
      go_wp2_with fail
      go_quiet (fail)
      go_wp2_with fail
      go_ret
      exact ⟨⟨_, rfl, by simp only [ByteArray.size_append, ByteArray.size_extract]; omega⟩, HC3.out, ⟨HG3.out.os, HG3.out.tape, HG3.out.output, HG3.out.size, HG3.out.block⟩⟩
    · have t0 : (c == 0) = false := by rw [beq_eq_false_iff_ne]; exact c0
      by_cases c1 : c = 1
      · have t1 : (c == 1) = true := by rw [beq_iff_eq]; exact c1
        clear c0 c1 hc0 hc1
        go_wp2_with fail
        go_quiet (fail)
        go_wp2_with fail
        go_ret
        exact ⟨⟨_, rfl, by simp only [ByteArray.size_append, ByteArray.size_extract]; omega⟩, HC3.out, ⟨HG3.out.os, HG3.out.tape, HG3.out.output, HG3.out.size, HG3.out.block⟩⟩
      · have t1 : (c == 1) = false := by rw [beq_eq_false_iff_ne]; exact c1
        clear c0 c1 hc0 hc1
        go_wp2_with fail
        go_quiet (fail)
        go_wp2_with fail
        go_ret
        exact ⟨⟨_, rfl, by simp only [ByteArray.size_append, ByteArray.size_extract]; omega⟩, HC3.out, ⟨HG3.out.os, HG3.out.tape, HG3.out.output, HG3.out.size, HG3.out.block⟩⟩
end Go.Proofs.YtgoelkgdjnhklaaDoor
