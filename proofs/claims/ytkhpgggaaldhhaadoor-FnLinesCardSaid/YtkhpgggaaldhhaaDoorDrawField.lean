/- Contracts: the draw of a valid field. -/
import Derived.Test.YtkhpgggaaldhhaaDoorDrawTin
import Derived.Test.YtkhpgggaaldhhaaDoorFields
namespace Go.Proofs.YtkhpgggaaldhhaaDoor
open Go.RowKit

/-- The four cells of a box. -/
theorem BoxF.four {w : World} {b : Nat} {x0 x1 x2 x3 : Value} {t : TypeId} (h : BoxF w b [x0, x1, x2, x3] t) : w.cell? ⟨b, 0, none⟩ = some x0 ∧ w.cell? ⟨b, 1, none⟩ = some x1 ∧ w.cell? ⟨b, 2, none⟩ = some x2 ∧ w.cell? ⟨b, 3, none⟩ = some x3 ∧ (∀ i, w.frozen? ⟨b, i, none⟩ = false) :=
  ⟨h.at 0, h.at 1, h.at 2, h.at 3, h.free⟩

theorem fok_plain {f : Int} (h0 : 1 ≤ f) (h1 : f ≤ 9) : FOk 0 0 f 0 := ⟨by omega, by omega, ⟨h0, h1⟩, .inl ⟨rfl, rfl, rfl⟩⟩
theorem fok_drawn {f q l r : Int} (h0 : 1 ≤ f) (h1 : f ≤ 9) (hq0 : 0 ≤ q) (hq1 : q < 7) (hl0 : 0 ≤ l) (hl1 : l ≤ 4) (hr0 : 0 ≤ r) (hr1 : r < 8) : FOk (1 + q) l f (1 + (f + r) % 9) :=
  ⟨by omega, ⟨hl0, hl1⟩, ⟨h0, h1⟩, .inr ⟨by omega, by omega, by omega⟩⟩

theorem grown4 (w : World) (b : Nat) (v0 v1 v2 v3 : Value) : w.grownBy ((((w.setCell ⟨b, 0, none⟩ v0).setCell ⟨b, 1, none⟩ v1).setCell ⟨b, 2, none⟩ v2).setCell ⟨b, 3, none⟩ v3) (some b) :=
  (((grownBy_set w b 0 v0).trans (grownBy_set _ b 1 v1)).trans (grownBy_set _ b 2 v2)).trans (grownBy_set _ b 3 v3)
def DrewField (w : World) (B p : Nat) (a : Option Addr) (n cap M : Nat) (e : Ending) (w' : World) : Prop :=
  (∃ d l f s : Int, e = .returned (.agg #[.int .i64 d, .int .i64 l, .int .i64 f, .int .i64 s]) ∧ FOk d l f s) ∧ IsCur w' B p a n cap M ∧ w.grownBy w' (some p)
set_option maxHeartbeats 4000000 in
theorem field_any (B p : Nat) (a : Option Addr) (n cap M : Nat) (w : World) (h : IsCur w B p a n cap M) (hM : M ≤ 900000) (hn : n ≤ 65536) :
    Calls Tryd.prog 83 #[.pointer (some ⟨p, 0, none⟩)] w (DrewField w B p a n cap (M + 20)) := by
  have hpw := h.lt
  have HC0 := Lib.hid h
  have b0 := Lib.hid (BoxF.new w [.int .i64 0, .int .i64 0, .int .i64 0, .int .i64 0] 30)
  clear h
  go_enter Tryd.func83, Tryd.ntmps83
  go_wp2_with fail
  refine (tincture_any B p a n cap M _ (HC0.out.alloc _) (by omega) hn).mono ?_
  rintro e w1 ⟨⟨f, rfl, hf0, hf1⟩, hc1, hg1⟩
  have HC1 := Lib.hid hc1
  have b1 := Lib.hid (b0.out.kept hg1 (by simp; omega))
  have hz1 := hg1.size
  simp only [World.size_alloc] at hz1
  have G1 := Lib.hid ((World.grownBy_alloc w (.cells #[.int .i64 0, .int .i64 0, .int .i64 0, .int .i64 0] 30 (0, 0)) (some p)).trans hg1)
  have x1 := Lib.hid (BoxF.new w1 [.int .i64 0, .int .i64 0, .int .i64 f, .int .i64 0] 30)
  clear hc1 hg1 HC0 b0
  go_wp2_with fail
  refine (one_any B p a n cap _ _ (HC1.out.alloc _) (by omega) hn 2 (by omega) (by omega)).mono ?_
  rintro e w2 ⟨⟨b, rfl⟩, hc2, hg2⟩
  have HC2 := Lib.hid hc2
  have b2 := Lib.hid ((b1.out.alloc _).kept hg2 (by simp; omega))
  have x2 := Lib.hid (x1.out.kept hg2 (by simp; omega))
  have hz2 := hg2.size
  simp only [World.size_alloc] at hz2
  have G2 := Lib.hid (G1.out.trans ((World.grownBy_alloc w1 _ _).trans hg2))
  clear hc2 hg2 HC1 b1 x1 G1
  obtain ⟨k0, k1, k2, k3, kf⟩ := b2.out.four
  obtain ⟨m0, m1, m2, m3, mf⟩ := x2.out.four
  cases b
  · clear k0 k1 k2 k3 kf m0 m1 m2 m3 mf
    go_wp2_with fail
    refine (pick_any B p a n cap _ w2 HC2.out (by omega) hn 7 (by omega) (by omega)).mono ?_
    rintro e w3 ⟨⟨q, rfl, hq0, hq1⟩, hc3, hg3⟩
    have x3 := x2.out.kept hg3 (by simp; omega)
    have b3 := b2.out.kept hg3 (by simp; omega)
    have hz3 := hg3.size
    obtain ⟨m0, m1, m2, m3, mf⟩ := x3.four
    have HC3 := Lib.hid (hc3.kept (grownBy_set w3 w1.heap.size 0 (.int .i64 (1 + q))) (fun k hk => by cases hk; omega))
    have X3 := Lib.hid (x3.set 0 (.int .i64 (1 + q)))
    have B3 := Lib.hid (b3.kept (grownBy_set w3 w1.heap.size 0 (.int .i64 (1 + q))) (by simp; omega))
    have G3 := Lib.hid (grownBy_own (G2.out.trans hg3) (grownBy_set w3 w1.heap.size 0 (.int .i64 (1 + q))) (fun k hk => by cases hk; omega))
    clear hc3 hg3 x3 b3 HC2 b2 x2 G2
    go_wp2_with fail
    generalize hW : w3.setCell ⟨w1.heap.size, 0, none⟩ (.int .i64 (1 + q)) = W3 at *
    have hzW : w3.heap.size = W3.heap.size := by rw [← hW]; simp
    have HW := Lib.hid hW
    clear hW m0 m1 m2 m3 mf
    refine (among_p B p a n cap _ _ (HC3.out.alloc _) (by omega) hn w3.heap.size 6 6 (fun x => 0 ≤ x ∧ x ≤ 4) (by omega) (by omega) (by rw [hzW]; exact numRowP_alloc _ _ _ _ 6 rfl (by intro v hv; simp at hv; rcases hv with rfl | rfl | rfl | rfl | rfl | rfl <;> simp [isNumP])) (by omega) (by rw [alloc_size]; omega)).mono ?_
    rintro e w4 ⟨⟨l, rfl, hl0, hl1⟩, hc4, hg4⟩
    have x4 := (X3.out.alloc _).kept hg4 (by simp; omega)
    have b4 := (B3.out.alloc _).kept hg4 (by simp; omega)
    have hz4 := hg4.size
    simp only [World.size_alloc] at hz4
    simp only [List.set_cons_zero] at x4
    obtain ⟨m0, m1, m2, m3, mf⟩ := x4.four
    have HC4 := Lib.hid (hc4.kept (grownBy_set w4 w1.heap.size 1 (.int .i64 l)) (fun k hk => by cases hk; omega))
    have X4 := Lib.hid (x4.set 1 (.int .i64 l))
    have B4 := Lib.hid (b4.kept (grownBy_set w4 w1.heap.size 1 (.int .i64 l)) (by simp; omega))
    have G4 := Lib.hid (grownBy_own (G3.out.trans ((World.grownBy_alloc W3 _ _).trans hg4)) (grownBy_set w4 w1.heap.size 1 (.int .i64 l)) (fun k hk => by cases hk; omega))
    clear hc4 hg4 x4 b4 HC3 B3 X3 G3
    go_wp2_with fail
    generalize hW4 : w4.setCell ⟨w1.heap.size, 1, none⟩ (.int .i64 l) = W4 at *
    have hzW4 : w4.heap.size = W4.heap.size := by rw [← hW4]; simp
    clear hW4 m0 m1 m2 m3 mf HW
    simp only [List.set_cons_succ, List.set_cons_zero] at X4
    obtain ⟨m0, m1, m2, m3, mf⟩ := X4.out.four
    have cpk := Lib.hid (fun k => pick_any B p a n cap _ (W4.drewN k) (show IsCur (W4.drewN k) B p a n cap _ from HC4.out) (by omega) hn 8 (by omega) (by omega))
    go_region_with (go_at_call 47; refine (cpk.out _).mono ?_; rintro e w5 ⟨⟨r, rfl, hr0, hr1⟩, hc5, hg5⟩; have x5 := BoxF.kept (show BoxF (W4.drewN _) w1.heap.size [.int .i64 (1 + q), .int .i64 l, .int .i64 f, .int .i64 0] 30 from X4.out) hg5 (by simp; omega); have c5 := x5.four.1; have c6 := x5.four.2.1; have c7 := x5.four.2.2.1; have c8 := x5.four.2.2.2.1; have c9 := x5.four.2.2.2.2; have y1 : IntKind.i64.wrap (f + r) = f + r := IntWalk.i64_in _ (by omega); have y2 : (f + r).tmod 9 = (f + r) % 9 := Int.tmod_eq_emod_of_nonneg (by omega); have y3 : IntKind.i64.wrap (1 + (f + r) % 9) = 1 + (f + r) % 9 := IntWalk.i64_in _ (by omega); have y4 : IntKind.i64.wrap ((f + r) % 9) = (f + r) % 9 := IntWalk.i64_in _ (by omega))
    all_goals
      clear c5 c6 c7 c8 c9 y1 y2 y3 y4 m0 m1 m2 m3 mf cpk
      have b5 := BoxF.kept (show BoxF (W4.drewN _) w.heap.size _ _ from B4.out) hg5 (by simp; omega)
      have hz5 : W4.heap.size ≤ w5.heap.size := hg5.size
      have gs := grownBy_set w5 w1.heap.size 3 (.int .i64 (1 + (f + r) % 9))
      have x6 := x5.set 3 (.int .i64 (1 + (f + r) % 9))
      have b6 := b5.kept gs (by simp; omega)
      have HC6 := Lib.hid ((hc5.mono (M' := M + 20) (by omega)).kept gs (fun k hk => by cases hk; omega))
      have G6 := Lib.hid (grownBy_own (G4.out.trans (show W4.grownBy w5 (some p) from ⟨hg5.os, hg5.tape, hg5.output, hg5.size, hg5.block⟩)) gs (fun k hk => by cases hk; omega))
      simp only [List.set_cons_succ, List.set_cons_zero] at x6
      obtain ⟨k0, k1, k2, k3, kf⟩ := b6.four
      obtain ⟨m0, m1, m2, m3, mf⟩ := x6.four
      clear x5 b5 gs hc5 hg5 x6 b6
      generalize w5.setCell ⟨w1.heap.size, 3, none⟩ (.int .i64 (1 + (f + r) % 9)) = W6 at *
      go_wp2_with fail
      refine bodyPost_ret (v := .agg #[.int .i64 (1 + q), .int .i64 l, .int .i64 f, .int .i64 (1 + (f + r) % 9)]) (by simp [results, Tryd.results83, go_sem, k0, k1, k2, k3]) rfl ⟨⟨_, _, _, _, rfl, fok_drawn hf0 hf1 hq0 (by omega) hl0 hl1 hr0 (by omega)⟩, ?_, ?_⟩
      · exact HC6.out.kept (grown4 W6 _ _ _ _ _) (fun k hk => by cases hk; omega)
      · exact grownBy_own G6.out (grown4 W6 _ _ _ _ _) (fun k hk => by cases hk; omega)
  · go_wp2_with fail
    refine bodyPost_ret (v := .agg #[.int .i64 0, .int .i64 0, .int .i64 f, .int .i64 0]) (by simp [results, Tryd.results83, go_sem, k0, k1, k2, k3]) rfl ⟨⟨_, _, _, _, rfl, fok_plain hf0 hf1⟩, ?_, ?_⟩
    · exact (HC2.out.mono (by omega)).kept (grown4 w2 _ _ _ _ _) (fun k hk => by cases hk; omega)
    · exact grownBy_own G2.out (grown4 w2 _ _ _ _ _) (fun k hk => by cases hk; omega)
end Go.Proofs.YtkhpgggaaldhhaaDoor
