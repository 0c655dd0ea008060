/- Contract: the model's Simplest. -/
import Derived.Test.YtapjiffililmgaaDoorArmBest
import Derived.Deep.RegionWith
import Derived.Deep.DeepCutAuto
import Derived.Deep.RegionHeld3
namespace Go.Proofs.YtapjiffililmgaaDoor
open Go.RowKit

/-- The cells of two of the row's arms, in every world that leaves the row as it was. -/
theorem lx_of {wr W : World} {b o q r : Nat} {A B : Arm} (h : b < wr.heap.size ∧ (∀ j z, A.ints[j]? = some z → wr.cell? ⟨b, o + q * 15 + j, none⟩ = some (.int .i64 z)) ∧ ∀ j z, B.ints[j]? = some z → wr.cell? ⟨b, o + r * 15 + j, none⟩ = some (.int .i64 z)) (hb : Below wr.heap.size wr W) : W.cell? ⟨b, o + q * 15, none⟩ = some (.int .i64 A.d) ∧ W.cell? ⟨b, o + q * 15 + 1, none⟩ = some (.int .i64 A.l) ∧ W.cell? ⟨b, o + q * 15 + 2, none⟩ = some (.int .i64 A.f) ∧ W.cell? ⟨b, o + q * 15 + 3, none⟩ = some (.int .i64 A.s) ∧ W.cell? ⟨b, o + q * 15 + 4, none⟩ = some (.int .i64 A.o) ∧ W.cell? ⟨b, o + q * 15 + 5, none⟩ = some (.int .i64 A.n) ∧ W.cell? ⟨b, o + q * 15 + 6, none⟩ = some (.int .i64 A.x) ∧ W.cell? ⟨b, o + q * 15 + 7, none⟩ = some (.int .i64 A.c) ∧ W.cell? ⟨b, o + q * 15 + 8, none⟩ = some (.int .i64 A.k) ∧ W.cell? ⟨b, o + q * 15 + 9, none⟩ = some (.int .i64 A.a) ∧ W.cell? ⟨b, o + q * 15 + 10, none⟩ = some (.int .i64 A.t) ∧ W.cell? ⟨b, o + q * 15 + 11, none⟩ = some (.int .i64 A.c') ∧ W.cell? ⟨b, o + q * 15 + 12, none⟩ = some (.int .i64 A.k') ∧ W.cell? ⟨b, o + q * 15 + 13, none⟩ = some (.int .i64 A.a') ∧ W.cell? ⟨b, o + q * 15 + 14, none⟩ = some (.int .i64 A.t') ∧ W.cell? ⟨b, o + r * 15, none⟩ = some (.int .i64 B.d) ∧ W.cell? ⟨b, o + r * 15 + 1, none⟩ = some (.int .i64 B.l) ∧ W.cell? ⟨b, o + r * 15 + 2, none⟩ = some (.int .i64 B.f) ∧ W.cell? ⟨b, o + r * 15 + 3, none⟩ = some (.int .i64 B.s) ∧ W.cell? ⟨b, o + r * 15 + 4, none⟩ = some (.int .i64 B.o) ∧ W.cell? ⟨b, o + r * 15 + 5, none⟩ = some (.int .i64 B.n) ∧ W.cell? ⟨b, o + r * 15 + 6, none⟩ = some (.int .i64 B.x) ∧ W.cell? ⟨b, o + r * 15 + 7, none⟩ = some (.int .i64 B.c) ∧ W.cell? ⟨b, o + r * 15 + 8, none⟩ = some (.int .i64 B.k) ∧ W.cell? ⟨b, o + r * 15 + 9, none⟩ = some (.int .i64 B.a) ∧ W.cell? ⟨b, o + r * 15 + 10, none⟩ = some (.int .i64 B.t) ∧ W.cell? ⟨b, o + r * 15 + 11, none⟩ = some (.int .i64 B.c') ∧ W.cell? ⟨b, o + r * 15 + 12, none⟩ = some (.int .i64 B.k') ∧ W.cell? ⟨b, o + r * 15 + 13, none⟩ = some (.int .i64 B.a') ∧ W.cell? ⟨b, o + r * 15 + 14, none⟩ = some (.int .i64 B.t') ∧ Below wr.heap.size wr W :=
  ⟨(hb.cell (p := ⟨b, o + q * 15 + 0, none⟩) h.1).trans (h.2.1 0 _ rfl), (hb.cell (p := ⟨b, o + q * 15 + 1, none⟩) h.1).trans (h.2.1 1 _ rfl), (hb.cell (p := ⟨b, o + q * 15 + 2, none⟩) h.1).trans (h.2.1 2 _ rfl), (hb.cell (p := ⟨b, o + q * 15 + 3, none⟩) h.1).trans (h.2.1 3 _ rfl), (hb.cell (p := ⟨b, o + q * 15 + 4, none⟩) h.1).trans (h.2.1 4 _ rfl), (hb.cell (p := ⟨b, o + q * 15 + 5, none⟩) h.1).trans (h.2.1 5 _ rfl), (hb.cell (p := ⟨b, o + q * 15 + 6, none⟩) h.1).trans (h.2.1 6 _ rfl), (hb.cell (p := ⟨b, o + q * 15 + 7, none⟩) h.1).trans (h.2.1 7 _ rfl), (hb.cell (p := ⟨b, o + q * 15 + 8, none⟩) h.1).trans (h.2.1 8 _ rfl), (hb.cell (p := ⟨b, o + q * 15 + 9, none⟩) h.1).trans (h.2.1 9 _ rfl), (hb.cell (p := ⟨b, o + q * 15 + 10, none⟩) h.1).trans (h.2.1 10 _ rfl), (hb.cell (p := ⟨b, o + q * 15 + 11, none⟩) h.1).trans (h.2.1 11 _ rfl), (hb.cell (p := ⟨b, o + q * 15 + 12, none⟩) h.1).trans (h.2.1 12 _ rfl), (hb.cell (p := ⟨b, o + q * 15 + 13, none⟩) h.1).trans (h.2.1 13 _ rfl), (hb.cell (p := ⟨b, o + q * 15 + 14, none⟩) h.1).trans (h.2.1 14 _ rfl), (hb.cell (p := ⟨b, o + r * 15 + 0, none⟩) h.1).trans (h.2.2 0 _ rfl), (hb.cell (p := ⟨b, o + r * 15 + 1, none⟩) h.1).trans (h.2.2 1 _ rfl), (hb.cell (p := ⟨b, o + r * 15 + 2, none⟩) h.1).trans (h.2.2 2 _ rfl), (hb.cell (p := ⟨b, o + r * 15 + 3, none⟩) h.1).trans (h.2.2 3 _ rfl), (hb.cell (p := ⟨b, o + r * 15 + 4, none⟩) h.1).trans (h.2.2 4 _ rfl), (hb.cell (p := ⟨b, o + r * 15 + 5, none⟩) h.1).trans (h.2.2 5 _ rfl), (hb.cell (p := ⟨b, o + r * 15 + 6, none⟩) h.1).trans (h.2.2 6 _ rfl), (hb.cell (p := ⟨b, o + r * 15 + 7, none⟩) h.1).trans (h.2.2 7 _ rfl), (hb.cell (p := ⟨b, o + r * 15 + 8, none⟩) h.1).trans (h.2.2 8 _ rfl), (hb.cell (p := ⟨b, o + r * 15 + 9, none⟩) h.1).trans (h.2.2 9 _ rfl), (hb.cell (p := ⟨b, o + r * 15 + 10, none⟩) h.1).trans (h.2.2 10 _ rfl), (hb.cell (p := ⟨b, o + r * 15 + 11, none⟩) h.1).trans (h.2.2 11 _ rfl), (hb.cell (p := ⟨b, o + r * 15 + 12, none⟩) h.1).trans (h.2.2 12 _ rfl), (hb.cell (p := ⟨b, o + r * 15 + 13, none⟩) h.1).trans (h.2.2 13 _ rfl), (hb.cell (p := ⟨b, o + r * 15 + 14, none⟩) h.1).trans (h.2.2 14 _ rfl), hb⟩
theorem BoxF.drew' {w : World} {b : Nat} {L : List Value} {t : TypeId} (h : BoxF w b L t) : BoxF w.drew b L t := h
set_option maxRecDepth 100000 in
set_option maxHeartbeats 8000000 in
theorem simplestS_big (n : Nat) (a : Option Addr) (c : Nat) (w : World) (hn : n = 0 ∨ 20 < n) :
    Calls Tryd.prog 33 #[.slice a n c] w fun e w' => e = .returned (.tuple #[.int .i64 0, .bool false]) ∧ Below w.heap.size w w' := by
  have cl := fun W => l1In_no (n : Int) 1 20 W (by omega)
  clear hn
  go_enter Tryd.func33, Tryd.ntmps33
  go_wp2_with (go_at_call 69; refine (cl _).mono ?_; rintro e w' ⟨rfl, rfl⟩)
  go_ret2
  exact ⟨rfl, Below.refl _ _⟩
set_option maxRecDepth 100000 in
set_option maxHeartbeats 8000000 in
theorem simplestS_loop (X : List Arm) (n : Nat) (a : Option Addr) (c : Nat) (w : World) (h : RdA w a n X) (h1 : 0 < n) (h2 : n ≤ 20) (r : Bool) (hr : X.all Arm.ok = r) :
    Calls Tryd.prog 33 #[.slice a n c] w fun e w' => e = .returned (.tuple #[.int .i64 (if r = true then ((bestN X n : Nat) : Int) else 0), .bool r]) ∧ Below w.heap.size w w' := by
  obtain ⟨b, o, rfl, hbw, hc⟩ := h.2 h1
  have cl := fun W => l1In_yes (n : Int) 1 20 W (by omega) (by omega)
  have HL := Lib.hid h.1
  have HC := Lib.hid hc
  have HR := Lib.hid hr
  clear h hc hr
  go_enter Tryd.func33, Tryd.ntmps33
  go_wp2_with (go_at_call 69; refine (cl _).mono ?_; rintro e w' ⟨rfl, rfl⟩)
  clear cl
  go_loopw [4, 5] (fun v i wr => ∃ q : Nat, q ≤ n ∧ i = .int .i64 q ∧ v = .int .i64 ((bestN X q : Nat) : Int) ∧ Hid ((X.take q).all Arm.ok = true) ∧ Below w.heap.size w wr) (fun _ i _ => n - (intOf i).toNat)
  case atStart => exact ⟨0, by omega, rfl, rfl, by show _ = _; simp, Below.refl _ _⟩
  case round =>
    obtain ⟨q, hq, rfl, rfl, HT, hb⟩ := hrel
    by_cases hlt : q < n
    · obtain ⟨A, hA, hm⟩ := atA_of_lt HL.out hlt
      have hB0 := bestN_in (X := X) (k := q) (by have := HL.out; omega) (by have := HL.out; omega)
      obtain ⟨B, hB, hm2⟩ := atA_of_lt rfl hB0
      have hbl := bestN_lt X q
      rw [HL.out] at hB0
      have HB := Lib.hid hb
      have HAq := Lib.hid hA
      have HBq := Lib.hid hB
      have HBO : Hid ((A.ok = true → B.ok = true) ∧ (A.less B = true → bestN X (q + 1) = q) ∧ (A.less B = false → bestN X (q + 1) = bestN X q)) := Lib.hid ⟨fun hok => by
        rcases Nat.lt_or_ge (bestN X q) q with h | h
        · exact okA_at hB h HT
        · have e : bestN X q = q := by omega
          rw [e, hA] at hB
          cases hB
          exact hok, fun h => bestN_yes hA hB h, fun h => bestN_no hA hB h⟩
      have ka : ∀ j z, A.ints[j]? = some z → wr.cell? ⟨b, o + q * 15 + j, none⟩ = some (.int .i64 z) := fun j z hz => (hb.cell (p := ⟨b, o + q * 15 + j, none⟩) hbw).trans (HC.out q A hA j z hz)
      have ka := rdA_cells ka
      obtain ⟨x0, x1, x2, x3, x4, x5, x6, x7, x8, x9, x10, x11, x12, x13, x14⟩ := ka
      have kb : ∀ j z, B.ints[j]? = some z → wr.cell? ⟨b, o + bestN X q * 15 + j, none⟩ = some (.int .i64 z) := fun j z hz => (hb.cell (p := ⟨b, o + bestN X q * 15 + j, none⟩) hbw).trans (HC.out _ B hB j z hz)
      have kb := rdA_cells kb
      obtain ⟨y0, y1, y2, y3, y4, y5, y6, y7, y8, y9, y10, y11, y12, y13, y14⟩ := kb
      have HX : Hid (b < wr.heap.size ∧ (∀ j z, A.ints[j]? = some z → wr.cell? ⟨b, o + q * 15 + j, none⟩ = some (.int .i64 z)) ∧ ∀ j z, B.ints[j]? = some z → wr.cell? ⟨b, o + bestN X q * 15 + j, none⟩ = some (.int .i64 z)) := Lib.hid ⟨Nat.lt_of_lt_of_le hbw hb.size, fun j z hz => (hb.cell (p := ⟨b, o + q * 15 + j, none⟩) hbw).trans (HC.out q A hA j z hz), fun j z hz => (hb.cell (p := ⟨b, o + bestN X q * 15 + j, none⟩) hbw).trans (HC.out _ B hB j z hz)⟩
      clear hA hB hm hm2 hb
      generalize bestN X q = best at *
      have hbwr : b < wr.heap.size := Nat.lt_of_lt_of_le hbw HB.out.size
      go_upto_region 7 with fail
      go_cut [6, 7] (fun s6 s7 wx => ∃ g g', s6 = .pointer (some ⟨g, 0, none⟩) ∧ s7 = .pointer (some ⟨g', 0, none⟩) ∧ BoxF wx g [.int .i64 A.d, .int .i64 A.l, .int .i64 A.f, .int .i64 A.s, .int .i64 A.o, .int .i64 A.n, .int .i64 A.x, .int .i64 A.c, .int .i64 A.k, .int .i64 A.a, .int .i64 A.t, .int .i64 A.c', .int .i64 A.k', .int .i64 A.a', .int .i64 A.t'] 29 ∧ BoxF wx g' [.int .i64 B.d, .int .i64 B.l, .int .i64 B.f, .int .i64 B.s, .int .i64 B.o, .int .i64 B.n, .int .i64 B.x, .int .i64 B.c, .int .i64 B.k, .int .i64 B.a, .int .i64 B.t, .int .i64 B.c', .int .i64 B.k', .int .i64 B.a', .int .i64 B.t'] 29 ∧ Below w.heap.size w wx)
      case first =>
        as_aux_lemma =>
          have hS00 := lx_of HX.out (Below.refl _ wr)
          have hS0 := lx_of HX.out (Below.refl _ wr).drew
          go_region_held3 (fun w' => (w'.cell? ⟨b, o + q * 15, none⟩ = some (.int .i64 A.d) ∧ w'.cell? ⟨b, o + q * 15 + 1, none⟩ = some (.int .i64 A.l) ∧ w'.cell? ⟨b, o + q * 15 + 2, none⟩ = some (.int .i64 A.f) ∧ w'.cell? ⟨b, o + q * 15 + 3, none⟩ = some (.int .i64 A.s) ∧ w'.cell? ⟨b, o + q * 15 + 4, none⟩ = some (.int .i64 A.o) ∧ w'.cell? ⟨b, o + q * 15 + 5, none⟩ = some (.int .i64 A.n) ∧ w'.cell? ⟨b, o + q * 15 + 6, none⟩ = some (.int .i64 A.x) ∧ w'.cell? ⟨b, o + q * 15 + 7, none⟩ = some (.int .i64 A.c) ∧ w'.cell? ⟨b, o + q * 15 + 8, none⟩ = some (.int .i64 A.k) ∧ w'.cell? ⟨b, o + q * 15 + 9, none⟩ = some (.int .i64 A.a) ∧ w'.cell? ⟨b, o + q * 15 + 10, none⟩ = some (.int .i64 A.t) ∧ w'.cell? ⟨b, o + q * 15 + 11, none⟩ = some (.int .i64 A.c') ∧ w'.cell? ⟨b, o + q * 15 + 12, none⟩ = some (.int .i64 A.k') ∧ w'.cell? ⟨b, o + q * 15 + 13, none⟩ = some (.int .i64 A.a') ∧ w'.cell? ⟨b, o + q * 15 + 14, none⟩ = some (.int .i64 A.t') ∧ w'.cell? ⟨b, o + best * 15, none⟩ = some (.int .i64 B.d) ∧ w'.cell? ⟨b, o + best * 15 + 1, none⟩ = some (.int .i64 B.l) ∧ w'.cell? ⟨b, o + best * 15 + 2, none⟩ = some (.int .i64 B.f) ∧ w'.cell? ⟨b, o + best * 15 + 3, none⟩ = some (.int .i64 B.s) ∧ w'.cell? ⟨b, o + best * 15 + 4, none⟩ = some (.int .i64 B.o) ∧ w'.cell? ⟨b, o + best * 15 + 5, none⟩ = some (.int .i64 B.n) ∧ w'.cell? ⟨b, o + best * 15 + 6, none⟩ = some (.int .i64 B.x) ∧ w'.cell? ⟨b, o + best * 15 + 7, none⟩ = some (.int .i64 B.c) ∧ w'.cell? ⟨b, o + best * 15 + 8, none⟩ = some (.int .i64 B.k) ∧ w'.cell? ⟨b, o + best * 15 + 9, none⟩ = some (.int .i64 B.a) ∧ w'.cell? ⟨b, o + best * 15 + 10, none⟩ = some (.int .i64 B.t) ∧ w'.cell? ⟨b, o + best * 15 + 11, none⟩ = some (.int .i64 B.c') ∧ w'.cell? ⟨b, o + best * 15 + 12, none⟩ = some (.int .i64 B.k') ∧ w'.cell? ⟨b, o + best * 15 + 13, none⟩ = some (.int .i64 B.a') ∧ w'.cell? ⟨b, o + best * 15 + 14, none⟩ = some (.int .i64 B.t') ∧ Below wr.heap.size wr w'))
            (first
              | with_reducible exact hS0
              | with_reducible assumption
              | (with_reducible refine lx_of HX.out ?_; repeat' (first | with_reducible exact Below.refl _ _ | with_reducible refine Below.drew ?_ | with_reducible refine Below.alloc ?_ ?_ _ | with_reducible refine Below.setCell ?_ ?_ _ | (simp; done) | (simp; omega))))
            (fail)
          all_goals rename_i hh
          all_goals clear hh
          all_goals go_wp2_with fail
          all_goals go_meet
          all_goals
            first
              | (have q1 : BoxF ((wr.alloc (.cells #[.int .i64 A.d, .int .i64 A.l, .int .i64 A.f, .int .i64 A.s, .int .i64 A.o, .int .i64 A.n, .int .i64 A.x, .int .i64 A.c, .int .i64 A.k, .int .i64 A.a, .int .i64 A.t, .int .i64 A.c', .int .i64 A.k', .int .i64 A.a', .int .i64 A.t'] 29 (0, 0))).alloc (.cells #[.int .i64 B.d, .int .i64 B.l, .int .i64 B.f, .int .i64 B.s, .int .i64 B.o, .int .i64 B.n, .int .i64 B.x, .int .i64 B.c, .int .i64 B.k, .int .i64 B.a, .int .i64 B.t, .int .i64 B.c', .int .i64 B.k', .int .i64 B.a', .int .i64 B.t'] 29 (0, 0))) wr.heap.size [.int .i64 A.d, .int .i64 A.l, .int .i64 A.f, .int .i64 A.s, .int .i64 A.o, .int .i64 A.n, .int .i64 A.x, .int .i64 A.c, .int .i64 A.k, .int .i64 A.a, .int .i64 A.t, .int .i64 A.c', .int .i64 A.k', .int .i64 A.a', .int .i64 A.t'] 29 := (BoxF.new wr [.int .i64 A.d, .int .i64 A.l, .int .i64 A.f, .int .i64 A.s, .int .i64 A.o, .int .i64 A.n, .int .i64 A.x, .int .i64 A.c, .int .i64 A.k, .int .i64 A.a, .int .i64 A.t, .int .i64 A.c', .int .i64 A.k', .int .i64 A.a', .int .i64 A.t'] 29).alloc (.cells #[.int .i64 B.d, .int .i64 B.l, .int .i64 B.f, .int .i64 B.s, .int .i64 B.o, .int .i64 B.n, .int .i64 B.x, .int .i64 B.c, .int .i64 B.k, .int .i64 B.a, .int .i64 B.t, .int .i64 B.c', .int .i64 B.k', .int .i64 B.a', .int .i64 B.t'] 29 (0, 0))
                 have q2 : BoxF ((wr.alloc (.cells #[.int .i64 A.d, .int .i64 A.l, .int .i64 A.f, .int .i64 A.s, .int .i64 A.o, .int .i64 A.n, .int .i64 A.x, .int .i64 A.c, .int .i64 A.k, .int .i64 A.a, .int .i64 A.t, .int .i64 A.c', .int .i64 A.k', .int .i64 A.a', .int .i64 A.t'] 29 (0, 0))).alloc (.cells #[.int .i64 B.d, .int .i64 B.l, .int .i64 B.f, .int .i64 B.s, .int .i64 B.o, .int .i64 B.n, .int .i64 B.x, .int .i64 B.c, .int .i64 B.k, .int .i64 B.a, .int .i64 B.t, .int .i64 B.c', .int .i64 B.k', .int .i64 B.a', .int .i64 B.t'] 29 (0, 0))) (wr.heap.size + 1) [.int .i64 B.d, .int .i64 B.l, .int .i64 B.f, .int .i64 B.s, .int .i64 B.o, .int .i64 B.n, .int .i64 B.x, .int .i64 B.c, .int .i64 B.k, .int .i64 B.a, .int .i64 B.t, .int .i64 B.c', .int .i64 B.k', .int .i64 B.a', .int .i64 B.t'] 29 := by have q := BoxF.new (wr.alloc (.cells #[.int .i64 A.d, .int .i64 A.l, .int .i64 A.f, .int .i64 A.s, .int .i64 A.o, .int .i64 A.n, .int .i64 A.x, .int .i64 A.c, .int .i64 A.k, .int .i64 A.a, .int .i64 A.t, .int .i64 A.c', .int .i64 A.k', .int .i64 A.a', .int .i64 A.t'] 29 (0, 0))) [.int .i64 B.d, .int .i64 B.l, .int .i64 B.f, .int .i64 B.s, .int .i64 B.o, .int .i64 B.n, .int .i64 B.x, .int .i64 B.c, .int .i64 B.k, .int .i64 B.a, .int .i64 B.t, .int .i64 B.c', .int .i64 B.k', .int .i64 B.a', .int .i64 B.t'] 29; rw [World.size_alloc] at q; exact q
                 have q3 : Below w.heap.size w ((wr.alloc (.cells #[.int .i64 A.d, .int .i64 A.l, .int .i64 A.f, .int .i64 A.s, .int .i64 A.o, .int .i64 A.n, .int .i64 A.x, .int .i64 A.c, .int .i64 A.k, .int .i64 A.a, .int .i64 A.t, .int .i64 A.c', .int .i64 A.k', .int .i64 A.a', .int .i64 A.t'] 29 (0, 0))).alloc (.cells #[.int .i64 B.d, .int .i64 B.l, .int .i64 B.f, .int .i64 B.s, .int .i64 B.o, .int .i64 B.n, .int .i64 B.x, .int .i64 B.c, .int .i64 B.k, .int .i64 B.a, .int .i64 B.t, .int .i64 B.c', .int .i64 B.k', .int .i64 B.a', .int .i64 B.t'] 29 (0, 0))) := (HB.out.alloc HB.out.size _).alloc (by have := HB.out.size; simp; omega) _
                 generalize (wr.alloc (.cells #[.int .i64 A.d, .int .i64 A.l, .int .i64 A.f, .int .i64 A.s, .int .i64 A.o, .int .i64 A.n, .int .i64 A.x, .int .i64 A.c, .int .i64 A.k, .int .i64 A.a, .int .i64 A.t, .int .i64 A.c', .int .i64 A.k', .int .i64 A.a', .int .i64 A.t'] 29 (0, 0))).alloc (.cells #[.int .i64 B.d, .int .i64 B.l, .int .i64 B.f, .int .i64 B.s, .int .i64 B.o, .int .i64 B.n, .int .i64 B.x, .int .i64 B.c, .int .i64 B.k, .int .i64 B.a, .int .i64 B.t, .int .i64 B.c', .int .i64 B.k', .int .i64 B.a', .int .i64 B.t'] 29 (0, 0)) = WW at *
                 exact ⟨_, _, rfl, rfl, BoxF.drew' q1, BoxF.drew' q2, q3.drew⟩)
              | (have q1 : BoxF ((wr.alloc (.cells #[.int .i64 B.d, .int .i64 B.l, .int .i64 B.f, .int .i64 B.s, .int .i64 B.o, .int .i64 B.n, .int .i64 B.x, .int .i64 B.c, .int .i64 B.k, .int .i64 B.a, .int .i64 B.t, .int .i64 B.c', .int .i64 B.k', .int .i64 B.a', .int .i64 B.t'] 29 (0, 0))).alloc (.cells #[.int .i64 A.d, .int .i64 A.l, .int .i64 A.f, .int .i64 A.s, .int .i64 A.o, .int .i64 A.n, .int .i64 A.x, .int .i64 A.c, .int .i64 A.k, .int .i64 A.a, .int .i64 A.t, .int .i64 A.c', .int .i64 A.k', .int .i64 A.a', .int .i64 A.t'] 29 (0, 0))) wr.heap.size [.int .i64 B.d, .int .i64 B.l, .int .i64 B.f, .int .i64 B.s, .int .i64 B.o, .int .i64 B.n, .int .i64 B.x, .int .i64 B.c, .int .i64 B.k, .int .i64 B.a, .int .i64 B.t, .int .i64 B.c', .int .i64 B.k', .int .i64 B.a', .int .i64 B.t'] 29 := (BoxF.new wr [.int .i64 B.d, .int .i64 B.l, .int .i64 B.f, .int .i64 B.s, .int .i64 B.o, .int .i64 B.n, .int .i64 B.x, .int .i64 B.c, .int .i64 B.k, .int .i64 B.a, .int .i64 B.t, .int .i64 B.c', .int .i64 B.k', .int .i64 B.a', .int .i64 B.t'] 29).alloc (.cells #[.int .i64 A.d, .int .i64 A.l, .int .i64 A.f, .int .i64 A.s, .int .i64 A.o, .int .i64 A.n, .int .i64 A.x, .int .i64 A.c, .int .i64 A.k, .int .i64 A.a, .int .i64 A.t, .int .i64 A.c', .int .i64 A.k', .int .i64 A.a', .int .i64 A.t'] 29 (0, 0))
                 have q2 : BoxF ((wr.alloc (.cells #[.int .i64 B.d, .int .i64 B.l, .int .i64 B.f, .int .i64 B.s, .int .i64 B.o, .int .i64 B.n, .int .i64 B.x, .int .i64 B.c, .int .i64 B.k, .int .i64 B.a, .int .i64 B.t, .int .i64 B.c', .int .i64 B.k', .int .i64 B.a', .int .i64 B.t'] 29 (0, 0))).alloc (.cells #[.int .i64 A.d, .int .i64 A.l, .int .i64 A.f, .int .i64 A.s, .int .i64 A.o, .int .i64 A.n, .int .i64 A.x, .int .i64 A.c, .int .i64 A.k, .int .i64 A.a, .int .i64 A.t, .int .i64 A.c', .int .i64 A.k', .int .i64 A.a', .int .i64 A.t'] 29 (0, 0))) (wr.heap.size + 1) [.int .i64 A.d, .int .i64 A.l, .int .i64 A.f, .int .i64 A.s, .int .i64 A.o, .int .i64 A.n, .int .i64 A.x, .int .i64 A.c, .int .i64 A.k, .int .i64 A.a, .int .i64 A.t, .int .i64 A.c', .int .i64 A.k', .int .i64 A.a', .int .i64 A.t'] 29 := by have q := BoxF.new (wr.alloc (.cells #[.int .i64 B.d, .int .i64 B.l, .int .i64 B.f, .int .i64 B.s, .int .i64 B.o, .int .i64 B.n, .int .i64 B.x, .int .i64 B.c, .int .i64 B.k, .int .i64 B.a, .int .i64 B.t, .int .i64 B.c', .int .i64 B.k', .int .i64 B.a', .int .i64 B.t'] 29 (0, 0))) [.int .i64 A.d, .int .i64 A.l, .int .i64 A.f, .int .i64 A.s, .int .i64 A.o, .int .i64 A.n, .int .i64 A.x, .int .i64 A.c, .int .i64 A.k, .int .i64 A.a, .int .i64 A.t, .int .i64 A.c', .int .i64 A.k', .int .i64 A.a', .int .i64 A.t'] 29; rw [World.size_alloc] at q; exact q
                 have q3 : Below w.heap.size w ((wr.alloc (.cells #[.int .i64 B.d, .int .i64 B.l, .int .i64 B.f, .int .i64 B.s, .int .i64 B.o, .int .i64 B.n, .int .i64 B.x, .int .i64 B.c, .int .i64 B.k, .int .i64 B.a, .int .i64 B.t, .int .i64 B.c', .int .i64 B.k', .int .i64 B.a', .int .i64 B.t'] 29 (0, 0))).alloc (.cells #[.int .i64 A.d, .int .i64 A.l, .int .i64 A.f, .int .i64 A.s, .int .i64 A.o, .int .i64 A.n, .int .i64 A.x, .int .i64 A.c, .int .i64 A.k, .int .i64 A.a, .int .i64 A.t, .int .i64 A.c', .int .i64 A.k', .int .i64 A.a', .int .i64 A.t'] 29 (0, 0))) := (HB.out.alloc HB.out.size _).alloc (by have := HB.out.size; simp; omega) _
                 generalize (wr.alloc (.cells #[.int .i64 B.d, .int .i64 B.l, .int .i64 B.f, .int .i64 B.s, .int .i64 B.o, .int .i64 B.n, .int .i64 B.x, .int .i64 B.c, .int .i64 B.k, .int .i64 B.a, .int .i64 B.t, .int .i64 B.c', .int .i64 B.k', .int .i64 B.a', .int .i64 B.t'] 29 (0, 0))).alloc (.cells #[.int .i64 A.d, .int .i64 A.l, .int .i64 A.f, .int .i64 A.s, .int .i64 A.o, .int .i64 A.n, .int .i64 A.x, .int .i64 A.c, .int .i64 A.k, .int .i64 A.a, .int .i64 A.t, .int .i64 A.c', .int .i64 A.k', .int .i64 A.a', .int .i64 A.t'] 29 (0, 0)) = WW at *
                 exact ⟨_, _, rfl, rfl, BoxF.drew' q2, BoxF.drew' q1, q3.drew⟩)
      case rest =>
        clear x0 x1 x2 x3 x4 x5 x6 x7 x8 x9 x10 x11 x12 x13 x14 y0 y1 y2 y3 y4 y5 y6 y7 y8 y9 y10 y11 y12 y13 y14 HB
        obtain ⟨g, g', rfl, rfl, bg, bg', hb⟩ := hcut
        have BG := Lib.hid bg
        have BG' := Lib.hid bg'
        have HB1 := Lib.hid hb
        obtain ⟨p, hp⟩ : ∃ p, A.ok = p := ⟨_, rfl⟩
        have CP := Lib.hid (fun W => l5Good_any A.d A.l A.f A.s A.o A.n A.x A.c A.k A.a A.t A.c' A.k' A.a' A.t' W p hp)
        have HP := Lib.hid hp
        clear hp bg' hb
        obtain ⟨z0, z1, z2, z3, z4, z5, z6, z7, z8, z9, z10, z11, z12, z13, z14, zf⟩ := bg.fifteen
        clear bg
        go_wp2_with fail
        refine (CP.out _).mono ?_
        rintro e w1 ⟨rfl, g1⟩
        clear z0 z1 z2 z3 z4 z5 z6 z7 z8 z9 z10 z11 z12 z13 z14 zf CP
        have BG1 := Lib.hid (BG.out.below g1)
        have BH1 := Lib.hid (BG'.out.below g1)
        have HB2 := Lib.hid (HB1.out.trans (g1.mono HB1.out.size))
        clear g1 BG BG' HB1
        cases p
        · obtain rfl : r = false := HR.out.symm.trans (okA_bad HAq.out HP.out)
          go_wp2_with fail
          go_ret2
          exact ⟨rfl, HB2.out⟩
        · obtain ⟨s, hs⟩ : ∃ s, A.less B = s := ⟨_, rfl⟩
          have HS := Lib.hid hs
          have HT2 : Hid ((X.take (q + 1)).all Arm.ok = true) := Lib.hid (okA_succ HAq.out HT HP.out)
          have hcA := aOk_counts (show aOkB A.d A.l A.f A.s A.o A.n A.x A.c A.k A.a A.t A.c' A.k' A.a' A.t' = true from HP.out)
          have hcB := aOk_counts (show aOkB B.d B.l B.f B.s B.o B.n B.x B.c B.k B.a B.t B.c' B.k' B.a' B.t' = true from HBO.out.1 HP.out)
          have ew1 : IntKind.i64.wrap (A.c + A.c') = A.c + A.c' := IntWalk.i64_in _ (by omega)
          have ew2 : IntKind.i64.wrap (B.c + B.c') = B.c + B.c' := IntWalk.i64_in _ (by omega)
          have sa := fun W => l5Layers_any A.d A.l A.f A.s A.o A.n A.x A.c A.k A.a A.t A.c' A.k' A.a' A.t' W
          have sb := fun W => l5Layers_any B.d B.l B.f B.s B.o B.n B.x B.c B.k B.a B.t B.c' B.k' B.a' B.t' W
          unfold Arm.less Arm.chg Arm.lay at hs
          generalize layN A.o (gNoB A.c A.k A.a A.t) (gNoB A.c' A.k' A.a' A.t') = y1 at *
          generalize layN B.o (gNoB B.c B.k B.a B.t) (gNoB B.c' B.k' B.a' B.t') = y2 at *
          have SA := Lib.hid sa
          have SB := Lib.hid sb
          have HSS := Lib.hid hs
          clear sa sb hs hcA hcB
          have bg := BG1.out
          obtain ⟨z0, z1, z2, z3, z4, z5, z6, z7, z8, z9, z10, z11, z12, z13, z14, zf⟩ := bg.fifteen
          have bh := BH1.out
          obtain ⟨u0, u1, u2, u3, u4, u5, u6, u7, u8, u9, u10, u11, u12, u13, u14, uf⟩ := bh.fifteen
          clear bg bh
          go_wp2_with fail
          go_region_with (first
            | (go_at_call 70; (with_reducible refine (SA.out _).mono ?_); rintro e w2 ⟨rfl, g2⟩; have hS : Below w1.heap.size w1 w2 := ⟨g2.os, g2.tape, g2.output, g2.size, g2.block⟩; have bp := BH1.out.below hS; obtain ⟨y0, y1, y2, y3, y4, y5, y6, y7, y8, y9, y10, y11, y12, y13, y14, yf⟩ := bp.fifteen; have HM := Lib.hid hS; clear hS g2 bp)
            | (go_at_call 70; (with_reducible refine (SB.out _).mono ?_); rintro e w3 ⟨rfl, g3⟩; have hS : Below w2.heap.size w2 w3 := ⟨g3.os, g3.tape, g3.output, g3.size, g3.block⟩; have HM2 := Lib.hid (HM.out.trans (hS.mono HM.out.size)); clear hS g3))
          all_goals
            as_aux_lemma =>
              clear z0 z1 z2 z3 z4 z5 z6 z7 z8 z9 z10 z11 z12 z13 z14 zf u0 u1 u2 u3 u4 u5 u6 u7 u8 u9 u10 u11 u12 u13 u14 uf y0 y1 y2 y3 y4 y5 y6 y7 y8 y9 y10 y11 y12 y13 y14 yf
              have HB3 := Lib.hid (HB2.out.trans (HM2.out.mono HB2.out.size))
              have bg := BG1.out.below HM2.out
              obtain ⟨z0, z1, z2, z3, z4, z5, z6, z7, z8, z9, z10, z11, z12, z13, z14, zf⟩ := bg.fifteen
              have bh := BH1.out.below HM2.out
              obtain ⟨u0, u1, u2, u3, u4, u5, u6, u7, u8, u9, u10, u11, u12, u13, u14, uf⟩ := bh.fifteen
              clear bg bh BG1 BH1 HM HM2 HB2 SA SB
              by_cases h1 : y1 < y2
              · have e1 : decide (y1 < y2) = true := by simpa using h1
                have hst : s = true := by rw [← HSS.out, if_neg (by omega), e1]
                have HN : Hid (bestN X (q + 1) = q) := Lib.hid (HBO.out.2.1 (HS.out.trans hst))
                clear hst h1
                go_wp2_with fail
                go_roundw
                case rel => exact ⟨q + 1, by omega, by go_num, by rw [HN.out], HT2, HB3.out⟩
                case measure => simp [intOf]; omega
              · have e1 : decide (y1 < y2) = false := by simpa using h1
                by_cases h2 : y1 = y2
                · have e2 : (y1 == y2) = true := by rw [beq_iff_eq]; exact h2
                  have e3 : decide (A.c + A.c' < B.c + B.c') = s := by rw [← HSS.out, if_pos h2]
                  clear h1 h2
                  cases s
                  · have HN : Hid (bestN X (q + 1) = best) := Lib.hid (HBO.out.2.2 HS.out)
                    go_wp2_with fail
                    go_roundw
                    case rel => exact ⟨q + 1, by omega, by go_num, by rw [HN.out], HT2, HB3.out⟩
                    case measure => simp [intOf]; omega
                  · have HN : Hid (bestN X (q + 1) = q) := Lib.hid (HBO.out.2.1 HS.out)
                    go_wp2_with fail
                    go_roundw
                    case rel => exact ⟨q + 1, by omega, by go_num, by rw [HN.out], HT2, HB3.out⟩
                    case measure => simp [intOf]; omega
                · have e2 : (y1 == y2) = false := by rw [beq_eq_false_iff_ne]; exact h2
                  have hst : s = false := by rw [← HSS.out, if_neg h2, e1]
                  have HN : Hid (bestN X (q + 1) = best) := Lib.hid (HBO.out.2.2 (HS.out.trans hst))
                  clear hst h1 h2
                  go_wp2_with fail
                  go_roundw
                  case rel => exact ⟨q + 1, by omega, by go_num, by rw [HN.out], HT2, HB3.out⟩
                  case measure => simp [intOf]; omega
    · have hqn : q = n := by omega
      obtain rfl : r = true := HR.out.symm.trans (by have := HT; rwa [List.take_of_length_le (by have := HL.out; omega)] at this)
      have HB := Lib.hid hb
      clear hb
      go_wp2_with fail
      go_ret2
      subst hqn
      exact ⟨rfl, HB.out⟩
/-- The model's Simplest, at every row of arms. -/
theorem simplest_spec (X : List Arm) (n : Nat) (a : Option Addr) (c : Nat) (w : World) (h : RdA w a n X) :
    Calls Tryd.prog 33 #[.slice a n c] w fun e w' => e = .returned (.tuple #[.int .i64 (simpI X), .bool (simpB X)]) ∧ Below w.heap.size w w' := by
  have hl := h.1
  unfold simpI simpB
  by_cases h0 : 1 ≤ n ∧ n ≤ 20
  · rcases Bool.eq_false_or_eq_true (X.all Arm.ok) with hr | hr
    · have q := simplestS_loop X n a c w h h0.1 h0.2 true hr
      rw [if_pos ⟨by omega, by omega, hr⟩, decide_eq_true (p := 1 ≤ X.length ∧ X.length ≤ 20 ∧ X.all Arm.ok = true) ⟨by omega, by omega, hr⟩, hl]
      exact q
    · have q := simplestS_loop X n a c w h h0.1 h0.2 false hr
      rw [if_neg (by rw [hr]; simp), decide_eq_false (p := 1 ≤ X.length ∧ X.length ≤ 20 ∧ X.all Arm.ok = true) (by rw [hr]; simp)]
      exact q
  · have q := simplestS_big n a c w (by omega)
    rw [if_neg (by omega), decide_eq_false (p := 1 ≤ X.length ∧ X.length ≤ 20 ∧ X.all Arm.ok = true) (by omega)]
    exact q
end Go.Proofs.YtapjiffililmgaaDoor
