/- Contracts: the draw of a field that may be invalid. -/
import Derived.Test.YtkhpgggaaldhhaaDoorDrawField
namespace Go.Proofs.YtkhpgggaaldhhaaDoor
open Go.RowKit

def DrewAny (w : World) (B p : Nat) (a : Option Addr) (n cap M : Nat) (e : Ending) (w' : World) : Prop :=
  (∃ d l f s : Int, e = .returned (.agg #[.int .i64 d, .int .i64 l, .int .i64 f, .int .i64 s])) ∧ IsCur w' B p a n cap M ∧ w.grownBy w' (some p)
set_option maxHeartbeats 8000000 in
theorem anyField_any (B p : Nat) (a : Option Addr) (n cap M : Nat) (w : World) (h : IsCur w B p a n cap M) (hM : M ≤ 900000) (hn : n ≤ 65536) :
    Calls Tryd.prog 54 #[.pointer (some ⟨p, 0, none⟩)] w (DrewAny w B p a n cap (M + 40)) := by
  have hpw := h.lt
  have HC0 := Lib.hid h
  have b0 := Lib.hid (BoxF.new w [.int .i64 0, .int .i64 0, .int .i64 0, .int .i64 0] 30)
  clear h
  go_enter Tryd.func54, Tryd.ntmps54
  go_wp2_with fail
  refine (field_any B p a n cap M _ (HC0.out.alloc _) (by omega) hn).mono ?_
  rintro e w1 ⟨⟨d, l, f, s, rfl, hF⟩, hc1, hg1⟩
  have HC1 := Lib.hid hc1
  have b1 := Lib.hid (b0.out.kept hg1 (by simp; omega))
  have hz1 := hg1.size
  simp only [World.size_alloc] at hz1
  have G1 := Lib.hid ((World.grownBy_alloc w (.cells #[.int .i64 0, .int .i64 0, .int .i64 0, .int .i64 0] 30 (0, 0)) (some p)).trans hg1)
  have x1 := Lib.hid (BoxF.new w1 [.int .i64 d, .int .i64 l, .int .i64 f, .int .i64 s] 30)
  clear hc1 hg1 HC0 b0 hF
  go_wp2_with fail
  refine (pick_any B p a n cap _ _ (HC1.out.alloc _) (by omega) hn 24 (by omega) (by omega)).mono ?_
  rintro e w2 ⟨⟨r, rfl, hr0, hr1⟩, hc2, hg2⟩
  have HC2 := Lib.hid hc2
  have b2 := Lib.hid ((b1.out.alloc _).kept hg2 (by simp; omega))
  have x2 := Lib.hid (x1.out.kept hg2 (by simp; omega))
  have hz2 := hg2.size
  simp only [World.size_alloc] at hz2
  have G2 := Lib.hid (G1.out.trans ((World.grownBy_alloc w1 _ _).trans hg2))
  clear hc2 hg2 HC1 b1 x1 G1
  by_cases e0 : r = 0
  · have t0 : (r == 0) = true := by rw [beq_iff_eq]; exact e0
    clear e0 hr0 hr1
    go_wp2_with fail
    refine (among_p B p a n cap _ _ (HC2.out.alloc _) (by omega) hn w2.heap.size 5 5 (fun _ => True) (by omega) (by omega) (numRowP_alloc _ _ _ _ 5 rfl (by intro v hv; simp at hv; rcases hv with rfl | rfl | rfl | rfl | rfl <;> simp [isNumP])) (by have := HC2.out.lt; omega) (by rw [alloc_size]; omega)).mono ?_
    rintro e w3 ⟨⟨y, rfl, _⟩, hc3, hg3⟩
    have x3 := (x2.out.alloc _).kept hg3 (by simp; omega)
    have b3 := (b2.out.alloc _).kept hg3 (by simp; omega)
    have hz3 := hg3.size
    simp only [World.size_alloc] at hz3
    have gs := grownBy_set w3 w1.heap.size 0 (.int .i64 y)
    have x4 := x3.set 0 (.int .i64 y)
    have b4 := b3.kept gs (by simp; omega)
    have HC4 := Lib.hid ((hc3.mono (M' := M + 40) (by omega)).kept gs (fun k hk => by cases hk; omega))
    have G4 := Lib.hid (grownBy_own (G2.out.trans ((World.grownBy_alloc w2 _ _).trans hg3)) gs (fun k hk => by cases hk; omega))
    obtain ⟨m0, m1, m2, m3, mf⟩ := x3.four
    simp only [List.set_cons_zero] at x4
    obtain ⟨q0, q1, q2, q3, qf⟩ := x4.four
    obtain ⟨k0, k1, k2, k3, kf⟩ := b4.four
    clear hc3 hg3 x3 b3 gs x4 b4 HC2 x2 b2 G2
    have hz4 : w3.heap.size = (w3.setCell ⟨w1.heap.size, 0, none⟩ (.int .i64 y)).heap.size := by simp
    go_wp2_with fail
    clear m0 m1 m2 m3 mf
    generalize w3.setCell ⟨w1.heap.size, 0, none⟩ (.int .i64 y) = W4 at *
    go_wp2_with fail
    refine bodyPost_ret (v := .agg #[.int .i64 y, .int .i64 l, .int .i64 f, .int .i64 s]) (by simp [results, Tryd.results54, go_sem, k0, k1, k2, k3]) rfl ⟨⟨_, _, _, _, rfl⟩, ?_, ?_⟩
    · exact HC4.out.kept (grown4 W4 _ _ _ _ _) (fun k hk => by cases hk; omega)
    · exact grownBy_own G4.out (grown4 W4 _ _ _ _ _) (fun k hk => by cases hk; omega)
  · have t0 : (r == 0) = false := by rw [beq_eq_false_iff_ne]; exact e0
    by_cases e1 : r = 1
    · have t1 : (r == 1) = true := by rw [beq_iff_eq]; exact e1
      clear e0 e1 hr0 hr1
      go_wp2_with fail
      refine (among_p B p a n cap _ _ (HC2.out.alloc _) (by omega) hn w2.heap.size 4 4 (fun _ => True) (by omega) (by omega) (numRowP_alloc _ _ _ _ 4 rfl (by intro v hv; simp at hv; rcases hv with rfl | rfl | rfl | rfl <;> simp [isNumP])) (by have := HC2.out.lt; omega) (by rw [alloc_size]; omega)).mono ?_
      rintro e w3 ⟨⟨y, rfl, _⟩, hc3, hg3⟩
      have x3 := (x2.out.alloc _).kept hg3 (by simp; omega)
      have b3 := (b2.out.alloc _).kept hg3 (by simp; omega)
      have hz3 := hg3.size
      simp only [World.size_alloc] at hz3
      have gs := grownBy_set w3 w1.heap.size 1 (.int .i64 y)
      have x4 := x3.set 1 (.int .i64 y)
      have b4 := b3.kept gs (by simp; omega)
      have HC4 := Lib.hid ((hc3.mono (M' := M + 40) (by omega)).kept gs (fun k hk => by cases hk; omega))
      have G4 := Lib.hid (grownBy_own (G2.out.trans ((World.grownBy_alloc w2 _ _).trans hg3)) gs (fun k hk => by cases hk; omega))
      obtain ⟨m0, m1, m2, m3, mf⟩ := x3.four
      simp only [List.set_cons_succ, List.set_cons_zero] at x4
      obtain ⟨q0, q1, q2, q3, qf⟩ := x4.four
      obtain ⟨k0, k1, k2, k3, kf⟩ := b4.four
      clear hc3 hg3 x3 b3 gs x4 b4 HC2 x2 b2 G2
      have hz4 : w3.heap.size = (w3.setCell ⟨w1.heap.size, 1, none⟩ (.int .i64 y)).heap.size := by simp
      go_wp2_with fail
      clear m0 m1 m2 m3 mf
      generalize w3.setCell ⟨w1.heap.size, 1, none⟩ (.int .i64 y) = W4 at *
      go_wp2_with fail
      refine bodyPost_ret (v := .agg #[.int .i64 d, .int .i64 y, .int .i64 f, .int .i64 s]) (by simp [results, Tryd.results54, go_sem, k0, k1, k2, k3]) rfl ⟨⟨_, _, _, _, rfl⟩, ?_, ?_⟩
      · exact HC4.out.kept (grown4 W4 _ _ _ _ _) (fun k hk => by cases hk; omega)
      · exact grownBy_own G4.out (grown4 W4 _ _ _ _ _) (fun k hk => by cases hk; omega)
    · have t1 : (r == 1) = false := by rw [beq_eq_false_iff_ne]; exact e1
      by_cases e2 : r = 2
      · have t2 : (r == 2) = true := by rw [beq_iff_eq]; exact e2
        clear e0 e1 e2 hr0 hr1
        go_wp2_with fail
        refine (among_p B p a n cap _ _ (HC2.out.alloc _) (by omega) hn w2.heap.size 3 3 (fun _ => True) (by omega) (by omega) (numRowP_alloc _ _ _ _ 3 rfl (by intro v hv; simp at hv; rcases hv with rfl | rfl | rfl <;> simp [isNumP])) (by have := HC2.out.lt; omega) (by rw [alloc_size]; omega)).mono ?_
        rintro e w3 ⟨⟨y, rfl, _⟩, hc3, hg3⟩
        have x3 := (x2.out.alloc _).kept hg3 (by simp; omega)
        have b3 := (b2.out.alloc _).kept hg3 (by simp; omega)
        have hz3 := hg3.size
        simp only [World.size_alloc] at hz3
        have gs := grownBy_set w3 w1.heap.size 2 (.int .i64 y)
        have x4 := x3.set 2 (.int .i64 y)
        have b4 := b3.kept gs (by simp; omega)
        have HC4 := Lib.hid ((hc3.mono (M' := M + 40) (by omega)).kept gs (fun k hk => by cases hk; omega))
        have G4 := Lib.hid (grownBy_own (G2.out.trans ((World.grownBy_alloc w2 _ _).trans hg3)) gs (fun k hk => by cases hk; omega))
        obtain ⟨m0, m1, m2, m3, mf⟩ := x3.four
        simp only [List.set_cons_succ, List.set_cons_zero] at x4
        obtain ⟨q0, q1, q2, q3, qf⟩ := x4.four
        obtain ⟨k0, k1, k2, k3, kf⟩ := b4.four
        clear hc3 hg3 x3 b3 gs x4 b4 HC2 x2 b2 G2
        have hz4 : w3.heap.size = (w3.setCell ⟨w1.heap.size, 2, none⟩ (.int .i64 y)).heap.size := by simp
        go_wp2_with fail
        clear m0 m1 m2 m3 mf
        generalize w3.setCell ⟨w1.heap.size, 2, none⟩ (.int .i64 y) = W4 at *
        go_wp2_with fail
        refine bodyPost_ret (v := .agg #[.int .i64 d, .int .i64 l, .int .i64 y, .int .i64 s]) (by simp [results, Tryd.results54, go_sem, k0, k1, k2, k3]) rfl ⟨⟨_, _, _, _, rfl⟩, ?_, ?_⟩
        · exact HC4.out.kept (grown4 W4 _ _ _ _ _) (fun k hk => by cases hk; omega)
        · exact grownBy_own G4.out (grown4 W4 _ _ _ _ _) (fun k hk => by cases hk; omega)
      · have t2 : (r == 2) = false := by rw [beq_eq_false_iff_ne]; exact e2
        by_cases e3 : r = 3
        · have t3 : (r == 3) = true := by rw [beq_iff_eq]; exact e3
          clear e0 e1 e2 e3 hr0 hr1
          obtain ⟨u0, u1, u2, u3, uf⟩ := x2.out.four
          go_wp2_with fail
          clear u0 u1 u2 u3 uf
          refine (among_p B p a n cap _ _ (HC2.out.alloc _) (by omega) hn w2.heap.size 4 4 (fun _ => True) (by omega) (by omega) (numRowP_alloc _ _ _ _ 4 rfl (by intro v hv; simp at hv; rcases hv with rfl | rfl | rfl | rfl <;> simp [isNumP])) (by have := HC2.out.lt; omega) (by rw [alloc_size]; omega)).mono ?_
          rintro e w3 ⟨⟨y, rfl, _⟩, hc3, hg3⟩
          have x3 := (x2.out.alloc _).kept hg3 (by simp; omega)
          have b3 := (b2.out.alloc _).kept hg3 (by simp; omega)
          have hz3 := hg3.size
          simp only [World.size_alloc] at hz3
          have gs := grownBy_set w3 w1.heap.size 3 (.int .i64 y)
          have x4 := x3.set 3 (.int .i64 y)
          have b4 := b3.kept gs (by simp; omega)
          have HC4 := Lib.hid ((hc3.mono (M' := M + 40) (by omega)).kept gs (fun k hk => by cases hk; omega))
          have G4 := Lib.hid (grownBy_own (G2.out.trans ((World.grownBy_alloc w2 _ _).trans hg3)) gs (fun k hk => by cases hk; omega))
          obtain ⟨m0, m1, m2, m3, mf⟩ := x3.four
          simp only [List.set_cons_succ, List.set_cons_zero] at x4
          obtain ⟨q0, q1, q2, q3, qf⟩ := x4.four
          obtain ⟨k0, k1, k2, k3, kf⟩ := b4.four
          clear hc3 hg3 x3 b3 gs x4 b4 HC2 x2 b2 G2
          have hz4 : w3.heap.size = (w3.setCell ⟨w1.heap.size, 3, none⟩ (.int .i64 y)).heap.size := by simp
          go_wp2_with fail
          clear m0 m1 m2 m3 mf
          generalize w3.setCell ⟨w1.heap.size, 3, none⟩ (.int .i64 y) = W4 at *
          go_wp2_with fail
          refine bodyPost_ret (v := .agg #[.int .i64 d, .int .i64 l, .int .i64 f, .int .i64 y]) (by simp [results, Tryd.results54, go_sem, k0, k1, k2, k3]) rfl ⟨⟨_, _, _, _, rfl⟩, ?_, ?_⟩
          · exact HC4.out.kept (grown4 W4 _ _ _ _ _) (fun k hk => by cases hk; omega)
          · exact grownBy_own G4.out (grown4 W4 _ _ _ _ _) (fun k hk => by cases hk; omega)
        · have t3 : (r == 3) = false := by rw [beq_eq_false_iff_ne]; exact e3
          clear e0 e1 e2 e3 hr0 hr1
          obtain ⟨q0, q1, q2, q3, qf⟩ := x2.out.four
          obtain ⟨k0, k1, k2, k3, kf⟩ := b2.out.four
          go_wp2_with fail
          refine bodyPost_ret (v := .agg #[.int .i64 d, .int .i64 l, .int .i64 f, .int .i64 s]) (by simp [results, Tryd.results54, go_sem, k0, k1, k2, k3]) rfl ⟨⟨_, _, _, _, rfl⟩, ?_, ?_⟩
          · exact (HC2.out.mono (by omega)).kept (grown4 w2 _ _ _ _ _) (fun k hk => by cases hk; omega)
          · exact grownBy_own G2.out (grown4 w2 _ _ _ _ _) (fun k hk => by cases hk; omega)
end Go.Proofs.YtkhpgggaaldhhaaDoor
