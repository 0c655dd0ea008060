/- Contract: the program's Simplest. -/
import Derived.Test.YtapjiffililmgaaDoorRSimp
import Derived.Deep.RegionWith
namespace Go.Proofs.YtapjiffililmgaaDoor
open Go.RowKit

set_option maxRecDepth 100000 in
set_option maxHeartbeats 8000000 in
theorem simplest_big (X : List Arm) (n : Nat) (a : Option Addr) (c : Nat) (w : World) (h : RdA w a n X) (hn : n = 0 ∨ 20 < n) (hm : n ≤ maxLen) :
    Calls Tryd.prog 32 #[.slice a n c] w fun e w' => e = .returned (.tuple #[.int .i64 0, .bool false]) ∧ Below w.heap.size w w' := by
  rcases hn with hn | hn
  · subst hn
    clear h
    go_enter Tryd.func32, Tryd.ntmps32
    go_wp2_with fail
    go_ret2
    exact ⟨rfl, Below.refl _ _⟩
  · have e1 : ((n : Int) == 0) = false := by rw [beq_eq_false_iff_ne]; omega
    have e2 : decide ((20 : Int) < (n : Int)) = true := by simp; omega
    clear h
    go_enter Tryd.func32, Tryd.ntmps32
    go_wp2_with fail
    go_ret2
    exact ⟨rfl, Below.refl _ _⟩
set_option maxRecDepth 100000 in
set_option maxHeartbeats 8000000 in
theorem simplest_loop (X : List Arm) (n : Nat) (a : Option Addr) (c : Nat) (w : World) (h : RdA w a n X) (h1 : 0 < n) (h2 : n ≤ 20) (hAt : AttsLie w) (r : Bool) (hr : X.all Arm.ok = r) :
    Calls Tryd.prog 32 #[.slice a n c] w fun e w' => e = .returned (.tuple #[.int .i64 (if r = true then ((bestN X n : Nat) : Int) else 0), .bool r]) ∧ Below w.heap.size w w' := by
  obtain ⟨b, o, rfl, hbw, hc⟩ := h.2 h1
  have e1 : ((n : Int) == 0) = false := by rw [beq_eq_false_iff_ne]; omega
  have e2 : decide ((20 : Int) < (n : Int)) = false := by simp; omega
  have HL := Lib.hid h.1
  have HC := Lib.hid hc
  have HR := Lib.hid hr
  have HA := Lib.hid hAt
  clear h hc hr hAt
  go_enter Tryd.func32, Tryd.ntmps32
  go_wp2_with fail
  go_loopw [4, 17] (fun v i wr => ∃ q : Nat, q ≤ n ∧ i = .int .i64 q ∧ v = .int .i64 ((bestN X q : Nat) : Int) ∧ Hid ((X.take q).all Arm.ok = true) ∧ Below w.heap.size w wr) (fun _ i _ => n - (intOf i).toNat)
  case atStart => exact ⟨0, by omega, rfl, rfl, by show _ = _; simp, Below.refl _ _⟩
  case round =>
    obtain ⟨q, hq, rfl, rfl, HT, hb⟩ := hrel
    by_cases hlt : q < n
    · obtain ⟨A, hA, hm⟩ := atA_of_lt HL.out hlt
      have hB0 := bestN_in (X := X) (k := q) (by have := HL.out; omega) (by have := HL.out; omega)
      obtain ⟨B, hB, hm2⟩ := atA_of_lt rfl hB0
      have hbl := bestN_lt X q
      rw [HL.out] at hB0
      have HB := Lib.hid hb
      have HAq := Lib.hid hA
      have HBq := Lib.hid hB
      have ka : ∀ j z, A.ints[j]? = some z → wr.cell? ⟨b, o + q * 15 + j, none⟩ = some (.int .i64 z) := fun j z hz => (hb.cell (p := ⟨b, o + q * 15 + j, none⟩) hbw).trans (HC.out q A hA j z hz)
      have ka := rdA_cells ka
      obtain ⟨x0, x1, x2, x3, x4, x5, x6, x7, x8, x9, x10, x11, x12, x13, x14⟩ := ka
      have HBO : Hid ((A.ok = true → B.ok = true) ∧ (A.less B = true → bestN X (q + 1) = q) ∧ (A.less B = false → bestN X (q + 1) = bestN X q)) := Lib.hid ⟨fun hok => by
        rcases Nat.lt_or_ge (bestN X q) q with h | h
        · exact okA_at hB h HT
        · have e : bestN X q = q := by omega
          rw [e, hA] at hB
          cases hB
          exact hok, fun h => bestN_yes hA hB h, fun h => bestN_no hA hB h⟩
      have CV := Lib.hid (fun W (hb : Below w.heap.size w W) (p : Bool) (hp : A.ok = p) => validArms_impl A.d A.l A.f A.s A.o A.n A.x A.c A.k A.a A.t A.c' A.k' A.a' A.t' W p hp (HA.out.below hb))
      have bx := BoxF.new wr [.int .i64 A.d, .int .i64 A.l, .int .i64 A.f, .int .i64 A.s, .int .i64 A.o, .int .i64 A.n, .int .i64 A.x, .int .i64 A.c, .int .i64 A.k, .int .i64 A.a, .int .i64 A.t, .int .i64 A.c', .int .i64 A.k', .int .i64 A.a', .int .i64 A.t'] 29
      have BX := Lib.hid bx
      clear bx hA hB hm hm2 hb
      generalize bestN X q = best at *
      obtain ⟨p, hp⟩ : ∃ p, A.ok = p := ⟨_, rfl⟩
      have CP := Lib.hid (fun W hb => CV.out W hb p hp)
      have HP := Lib.hid hp
      clear CV hp
      go_wp2_with fail
      refine (CP.out _ (HB.out.alloc HB.out.size _)).mono ?_
      rintro e w1 ⟨rfl, g1⟩
      clear x0 x1 x2 x3 x4 x5 x6 x7 x8 x9 x10 x11 x12 x13 x14 CP
      have BX1 := Lib.hid (BX.out.below g1)
      have HB1 := Lib.hid ((HB.out.alloc HB.out.size _).trans (g1.mono (HB.out.alloc HB.out.size _).size))
      clear g1 BX HB
      cases p
      · have HF : Hid (r = false) := Lib.hid (HR.out.symm.trans (okA_bad HAq.out HP.out))
        obtain rfl := HF.out
        go_wp2_with fail
        go_ret2
        exact ⟨rfl, HB1.out⟩
      · obtain ⟨s, hs⟩ : ∃ s, A.less B = s := ⟨_, rfl⟩
        have HS := Lib.hid hs
        have CS := Lib.hid (fun W (hb : Below w.heap.size w W) (hB' : B.ok = true) => isSimpler_any A B W HP.out hB' (HA.out.below hb))
        have kb : ∀ j z, B.ints[j]? = some z → w1.cell? ⟨b, o + best * 15 + j, none⟩ = some (.int .i64 z) := fun j z hz => (HB1.out.cell (p := ⟨b, o + best * 15 + j, none⟩) hbw).trans (HC.out best B HBq.out j z hz)
        have kb := rdA_cells kb
        obtain ⟨y0, y1, y2, y3, y4, y5, y6, y7, y8, y9, y10, y11, y12, y13, y14⟩ := kb
        have bx := BX1.out
        obtain ⟨z0, z1, z2, z3, z4, z5, z6, z7, z8, z9, z10, z11, z12, z13, z14, zf⟩ := bx.fifteen
        have HBok : Hid (B.ok = true) := Lib.hid (HBO.out.1 (HP.out))
        rw [hs] at CS
        clear hs bx
        go_wp2_with fail
        go_region_with (first
          | (go_at_call 68; (with_reducible refine (CS.out _ ?_ HBok.out).mono ?_); exact ⟨HB1.out.os, HB1.out.tape, HB1.out.output, HB1.out.size, HB1.out.block⟩; rintro e w2 ⟨rfl, g2⟩; have hS : Below w1.heap.size w1 w2 := ⟨g2.os, g2.tape, g2.output, g2.size, g2.block⟩; have HB2 := Lib.hid (HB1.out.trans (hS.mono HB1.out.size)); clear hS g2))
        all_goals
          clear y0 y1 y2 y3 y4 y5 y6 y7 y8 y9 y10 y11 y12 y13 y14 z0 z1 z2 z3 z4 z5 z6 z7 z8 z9 z10 z11 z12 z13 z14 zf
          have HT2 : Hid ((X.take (q + 1)).all Arm.ok = true) := Lib.hid (okA_succ HAq.out HT HP.out)
          cases s
          · have HN : Hid (bestN X (q + 1) = best) := Lib.hid (HBO.out.2.2 HS.out)
            go_wp2_with fail
            go_roundw
            case rel => exact ⟨q + 1, by omega, by go_num, by rw [HN.out], HT2, HB2.out⟩
            case measure => simp [intOf]; omega
          · have HN : Hid (bestN X (q + 1) = q) := Lib.hid (HBO.out.2.1 HS.out)
            go_wp2_with fail
            go_roundw
            case rel => exact ⟨q + 1, by omega, by go_num, by rw [HN.out], HT2, HB2.out⟩
            case measure => simp [intOf]; omega
    · have hqn : q = n := by omega
      have HF : Hid (r = true) := Lib.hid (HR.out.symm.trans (by have := HT; rwa [List.take_of_length_le (by have := HL.out; omega)] at this))
      have HB := Lib.hid hb
      clear hb
      obtain rfl := HF.out
      go_wp2_with fail
      go_ret2
      subst hqn
      exact ⟨rfl, HB.out⟩
/-- The program's Simplest, at every row of arms. -/
theorem simplest_impl (X : List Arm) (n : Nat) (a : Option Addr) (c : Nat) (w : World) (h : RdA w a n X) (hm : n ≤ maxLen) (hAt : AttsLie w) :
    Calls Tryd.prog 32 #[.slice a n c] w fun e w' => e = .returned (.tuple #[.int .i64 (simpI X), .bool (simpB X)]) ∧ Below w.heap.size w w' := by
  have hl := h.1
  unfold simpI simpB
  by_cases h0 : 1 ≤ n ∧ n ≤ 20
  · rcases Bool.eq_false_or_eq_true (X.all Arm.ok) with hr | hr
    · have q := simplest_loop X n a c w h h0.1 h0.2 hAt true hr
      rw [if_pos ⟨by omega, by omega, hr⟩, decide_eq_true (p := 1 ≤ X.length ∧ X.length ≤ 20 ∧ X.all Arm.ok = true) ⟨by omega, by omega, hr⟩, hl]
      exact q
    · have q := simplest_loop X n a c w h h0.1 h0.2 hAt false hr
      rw [if_neg (by rw [hr]; simp), decide_eq_false (p := 1 ≤ X.length ∧ X.length ≤ 20 ∧ X.all Arm.ok = true) (by rw [hr]; simp)]
      exact q
  · have q := simplest_big X n a c w h (by omega) hm
    rw [if_neg (by omega), decide_eq_false (p := 1 ≤ X.length ∧ X.length ≤ 20 ∧ X.all Arm.ok = true) (by omega)]
    exact q
end Go.Proofs.YtapjiffililmgaaDoor
