/- Contracts: the draws of chapter 4: a group, a text of a group, two groups to be joined. -/
import Derived.Test.YtklfkdmmclomoaaDoorDrawGD
import Derived.Test.YtklfkdmmclomoaaDoorGJoin
import Derived.Test.YtklfkdmmclomoaaDoorGText3
import Derived.Test.YtklfkdmmclomoaaDoorSpoilt
namespace Go.Proofs.YtklfkdmmclomoaaDoor
open Go.RowKit

theorem drawn_below {w w' : World} {a : Option Addr} {n cap : Nat} (hg : (w.alloc (.cells #[.slice a n cap, .int .i64 0, .int .u64 0] 72 (0, 0))).grownBy w' (some w.heap.size)) : Below w.heap.size w w' :=
  ((Below.refl w.heap.size w).alloc (Nat.le_refl _) _).grown hg (by simp) (fun q hq => by cases hq; exact Nat.le_refl _)
/-- Some group was drawn. -/
def AGroup (w : World) (e : Ending) (w' : World) : Prop := (∃ d l f s : Int, e = .returned (.agg #[.int .i64 d, .int .i64 l, .int .i64 f, .int .i64 s])) ∧ Below w.heap.size w w'
theorem sets_below {w W : World} (h : Below w.heap.size w W) {b : Nat} (hb : w.heap.size ≤ b) (v0 v1 v2 v3 : Value) : Below w.heap.size w ((((W.setCell ⟨b, 0, none⟩ v0).setCell ⟨b, 1, none⟩ v1).setCell ⟨b, 2, none⟩ v2).setCell ⟨b, 3, none⟩ v3) :=
  h.grown (grown4 W b v0 v1 v2 v3) h.size (fun k hk => by cases hk; exact hb)
set_option maxHeartbeats 1000000 in
theorem drawGValid_any (a : Option Addr) (n cap : Nat) (w : World) (h : RdB w w.heap.size a n) (hn : n ≤ 65536) :
    Calls Tryd.prog 45 #[.slice a n cap] w (AGroup w) := by
  have b0 := Lib.hid (BoxF.new w [.int .i64 0, .int .i64 0, .int .i64 0, .int .i64 0] 25)
  have hB0 : Below w.heap.size w (w.alloc (.cells #[.int .i64 0, .int .i64 0, .int .i64 0, .int .i64 0] 25 (0, 0))) := (Below.refl _ w).alloc (Nat.le_refl _) _
  have hc := isCur_new cap (h.on hB0)
  rw [World.size_alloc] at hc
  have hc0 := Lib.hid hc
  clear h hc
  go_enter Tryd.func45, Tryd.ntmps45
  go_wp2_with fail
  refine (anyGroup_any (w.heap.size + 1) (w.heap.size + 1) a n cap 0 _ hc0.out (by omega) hn).mono ?_
  rintro e w1 ⟨⟨d, l, f, s, rfl⟩, hc1, hg1⟩
  have b1 := (b0.out.alloc _).kept hg1 (by simp)
  obtain ⟨k0, k1, k2, k3, kf⟩ := b1.four
  have HB := Lib.hid ((hB0.alloc (by simp) (.cells #[.slice a n cap, .int .i64 0, .int .u64 0] 72 (0, 0))).grown hg1 (by simp; omega) (fun q hq => by cases hq; omega))
  clear hc1 hg1 hc0 b0 b1 hB0
  go_wp2_with fail
  exact bodyPost_ret (v := .agg #[.int .i64 d, .int .i64 l, .int .i64 f, .int .i64 s]) (by simp [results, Tryd.results45, go_sem, k0, k1, k2, k3]) rfl ⟨⟨_, _, _, _, rfl⟩, sets_below HB.out (Nat.le_refl _) _ _ _ _⟩
set_option maxHeartbeats 1000000 in
theorem drawGText_any (a : Option Addr) (n cap : Nat) (w : World) (h : RdB w w.heap.size a n) (hn : n ≤ 65536) :
    Calls Tryd.prog 15 #[.slice a n cap] w (AGroup w) := by
  have b0 := Lib.hid (BoxF.new w [.int .i64 0, .int .i64 0, .int .i64 0, .int .i64 0] 25)
  have hB0 : Below w.heap.size w (w.alloc (.cells #[.int .i64 0, .int .i64 0, .int .i64 0, .int .i64 0] 25 (0, 0))) := (Below.refl _ w).alloc (Nat.le_refl _) _
  have cc := drawGValid_any a n cap (w.alloc (.cells #[.int .i64 0, .int .i64 0, .int .i64 0, .int .i64 0] 25 (0, 0))) (h.on hB0) hn
  clear h
  go_enter Tryd.func15, Tryd.ntmps15
  go_wp2_with fail
  refine cc.mono ?_
  rintro e w1 ⟨⟨d, l, f, s, rfl⟩, hb1⟩
  have b1 := b0.out.kept (row := none) ⟨hb1.os, hb1.tape, hb1.output, hb1.size, fun i hi _ => hb1.block i hi⟩ (by simp)
  obtain ⟨k0, k1, k2, k3, kf⟩ := b1.four
  have HB := Lib.hid (hB0.trans (hb1.mono (by simp)))
  clear hb1 b0 b1 hB0 cc
  go_wp2_with fail
  exact bodyPost_ret (v := .agg #[.int .i64 d, .int .i64 l, .int .i64 f, .int .i64 s]) (by simp [results, Tryd.results15, go_sem, k0, k1, k2, k3]) rfl ⟨⟨_, _, _, _, rfl⟩, sets_below HB.out (Nat.le_refl _) _ _ _ _⟩
theorem gtextN_max {c k a i : Nat} (h1 : 1 ≤ c) (h2 : c ≤ 6) (h3 : 1 ≤ k) (h4 : k ≤ 8) (h5 : a ≤ 2) (h6 : a = 0 ∨ k ≤ 3) (hi : i < 9) : (gtextN c k a i).size ≤ 60 := by
  have hb := bareN_size h1 h2 h3 h4 h5 h6
  have hw := wordN_size hi
  unfold gtextN
  simp only [ByteArray.size_append]
  have e1 : (ByteArray.mk #[32]).size = 1 := rfl
  omega
theorem drawGParse_any (a : Option Addr) (n cap : Nat) (w : World) (h : RdB w w.heap.size a n) (hn : n ≤ 65536) :
    Calls Tryd.prog 20 #[.slice a n cap] w fun e w' => (∃ s : ByteArray, e = .returned (.string s) ∧ s.size ≤ 100) ∧ Below w.heap.size w w' := by
  have hc0 := Lib.hid (isCur_new cap h)
  clear h
  go_enter Tryd.func20, Tryd.ntmps20
  go_wp2_with fail
  refine (group_any w.heap.size w.heap.size a n cap 0 _ hc0.out (by omega) hn).mono ?_
  rintro e w1 ⟨⟨c, k, b, t, rfl, hF⟩, hc1, hg1⟩
  have hO := gOk_out hF
  obtain ⟨i, rfl⟩ : ∃ i : Nat, t = (i : Int) + 1 := ⟨(t - 1).toNat, by omega⟩
  have ct := fun W => l4Text_any c k b i W (by omega) hF
  have htm := gtextN_max (c := c.toNat) (k := k.toNat) (a := b.toNat) (i := i) (by omega) (by omega) (by omega) (by omega) (by omega) (by omega) (by omega)
  generalize gtextN c.toNat k.toNat b.toNat i = t at *
  have HC1 := Lib.hid hc1
  have HG1 := Lib.hid hg1
  clear hc1 hg1 hF hO
  go_wp2_with fail
  refine (ct _).mono ?_
  rintro e w2 ⟨rfl, hb2⟩
  have HC2 := Lib.hid (HC1.out.kept (row := none) ⟨hb2.os, hb2.tape, hb2.output, hb2.size, fun i hi _ => hb2.block i hi⟩ (by simp))
  have HG2 := Lib.hid (HG1.out.trans (c := w2) ⟨hb2.os, hb2.tape, hb2.output, hb2.size, fun i hi _ => hb2.block i hi⟩)
  clear hb2 HC1 HG1 ct
  go_wp2_with fail
  refine (one_any w.heap.size w.heap.size a n cap _ _ HC2.out (by omega) hn 4 (by omega) (by omega)).mono ?_
  rintro e w3 ⟨⟨b, rfl⟩, hc3, hg3⟩
  have HC3 := Lib.hid hc3
  have HG3 := Lib.hid (HG2.out.trans hg3)
  clear hc3 hg3 HC2 HG2
  cases b
  · go_wp2_with fail
    go_ret
    exact ⟨⟨t, rfl, by omega⟩, drawn_below HG3.out⟩
  · go_wp2_with fail
    refine (spoilt_any w.heap.size w.heap.size a n cap _ _ HC3.out (by omega) hn t ⟨#[97, 110, 32, 115]⟩ (by omega) (by decide) (by decide)).mono ?_
    rintro e w4 ⟨⟨u, rfl, hu⟩, hc4, hg4⟩
    have HG4 := Lib.hid (HG3.out.trans hg4)
    clear hc4 hg4 HC3 HG3
    go_wp2_with fail
    go_ret
    exact ⟨⟨u, rfl, by omega⟩, drawn_below HG4.out⟩
set_option maxHeartbeats 8000000 in
theorem drawJoin_any (x : Option Addr) (n cap : Nat) (w : World) (h : RdB w w.heap.size x n) (hn : n ≤ 65536) :
    Calls Tryd.prog 22 #[.slice x n cap] w fun e w' => (∃ c k a t c' k' a' t' : Int, e = .returned (.tuple #[.agg #[.int .i64 c, .int .i64 k, .int .i64 a, .int .i64 t], .agg #[.int .i64 c', .int .i64 k', .int .i64 a', .int .i64 t']])) ∧ Below w.heap.size w w' := by
  have b0 := BoxF.new w [.int .i64 0, .int .i64 0, .int .i64 0, .int .i64 0] 25
  have c0 := BoxF.new (w.alloc (.cells #[.int .i64 0, .int .i64 0, .int .i64 0, .int .i64 0] 25 (0, 0))) [.int .i64 0, .int .i64 0, .int .i64 0, .int .i64 0] 25
  rw [World.size_alloc] at c0
  have hB0 : Below w.heap.size w ((w.alloc (.cells #[.int .i64 0, .int .i64 0, .int .i64 0, .int .i64 0] 25 (0, 0))).alloc (.cells #[.int .i64 0, .int .i64 0, .int .i64 0, .int .i64 0] 25 (0, 0))) := ((Below.refl _ w).alloc (Nat.le_refl _) _).alloc (by simp) _
  have hc := isCur_new cap (h.on hB0)
  simp only [World.size_alloc] at hc
  have HC0 := Lib.hid hc
  have X0 := Lib.hid ((b0.alloc (.cells #[.int .i64 0, .int .i64 0, .int .i64 0, .int .i64 0] 25 (0, 0))).alloc (.cells #[.slice x n cap, .int .i64 0, .int .u64 0] 72 (0, 0)))
  have Y0 := Lib.hid (c0.alloc (.cells #[.slice x n cap, .int .i64 0, .int .u64 0] 72 (0, 0)))
  have hB1 := hB0.alloc (by first | (simp; done) | (simp; omega)) (.cells #[.slice x n cap, .int .i64 0, .int .u64 0] 72 (0, 0))
  have HB0 := Lib.hid hB1
  have CD := Lib.hid (drawGD_any x n cap _ (h.on hB1) hn)
  clear h hc b0 c0 hB0 hB1
  go_enter Tryd.func22, Tryd.ntmps22
  go_wp2_with fail
  refine CD.out.mono ?_
  rintro e w1 ⟨⟨c, k, a, t, c', k', a', t', rfl⟩, hb1⟩
  have hg1 : (((w.alloc (.cells #[.int .i64 0, .int .i64 0, .int .i64 0, .int .i64 0] 25 (0, 0))).alloc (.cells #[.int .i64 0, .int .i64 0, .int .i64 0, .int .i64 0] 25 (0, 0))).alloc (.cells #[.slice x n cap, .int .i64 0, .int .u64 0] 72 (0, 0))).grownBy w1 none := ⟨hb1.os, hb1.tape, hb1.output, hb1.size, fun i hi _ => hb1.block i hi⟩
  have hz1 := hg1.size
  simp only [World.size_alloc] at hz1
  have X1 := Lib.hid (X0.out.kept hg1 (by simp))
  have Y1 := Lib.hid (Y0.out.kept hg1 (by simp))
  have HC1 := Lib.hid (HC0.out.kept hg1 (fun q hq => by cases hq))
  have HB1 := Lib.hid (HB0.out.grown hg1 (by first | (simp; done) | (simp; omega)) (fun q hq => by cases hq))
  have A1 := BoxF.new w1 [.int .i64 c, .int .i64 k, .int .i64 a, .int .i64 t] 25
  have E1 := BoxF.new (w1.alloc (.cells #[.int .i64 c, .int .i64 k, .int .i64 a, .int .i64 t] 25 (0, 0))) [.int .i64 c', .int .i64 k', .int .i64 a', .int .i64 t'] 25
  rw [World.size_alloc] at E1
  have HA1 := Lib.hid A1
  have HE1 := Lib.hid E1
  clear hb1 hg1 HC0 X0 Y0 HB0 A1 E1 CD
  go_wp2_with fail
  refine (one_any (w.heap.size + 1 + 1) (w.heap.size + 1 + 1) x n cap _ _ ((HC1.out.alloc _).alloc _) (by omega) hn 2 (by omega) (by omega)).mono ?_
  rintro e w2 ⟨⟨r, rfl⟩, hc2, hg2⟩
  have hz2 := hg2.size
  simp only [World.size_alloc] at hz2
  have X2 := Lib.hid (((X1.out.alloc _).alloc _).kept hg2 (by first | (simp; done) | (simp; omega)))
  have Y2 := Lib.hid (((Y1.out.alloc _).alloc _).kept hg2 (by first | (simp; done) | (simp; omega)))
  have A2 := Lib.hid ((HA1.out.alloc _).kept hg2 (by first | (simp; done) | (simp; omega)))
  have E2 := Lib.hid (HE1.out.kept hg2 (by first | (simp; done) | (simp; omega)))
  have HC2 := Lib.hid hc2
  have HB2 := Lib.hid (((HB1.out.alloc (by omega) _).alloc (by first | (simp; done) | (simp; omega)) _).grown hg2 (by first | (simp; done) | (simp; omega)) (fun q hq => by cases hq; omega))
  clear hc2 hg2 HC1 X1 Y1 HA1 HE1 HB1
  have R1 : ∀ (W : World) i j v, (W.setCell ⟨w.heap.size, i, none⟩ v).cell? ⟨w.heap.size + 1, j, none⟩ = W.cell? ⟨w.heap.size + 1, j, none⟩ := fun W i j v => cset_b _ _ _ _ _ _ (by omega)
  have R2 : ∀ (W : World) i j v, (W.setCell ⟨w.heap.size + 1, i, none⟩ v).cell? ⟨w.heap.size, j, none⟩ = W.cell? ⟨w.heap.size, j, none⟩ := fun W i j v => cset_b _ _ _ _ _ _ (by omega)
  have R3 : ∀ (W : World) i j v, (W.setCell ⟨w.heap.size, i, none⟩ v).cell? ⟨w1.heap.size, j, none⟩ = W.cell? ⟨w1.heap.size, j, none⟩ := fun W i j v => cset_b _ _ _ _ _ _ (by omega)
  have R4 : ∀ (W : World) i j v, (W.setCell ⟨w.heap.size, i, none⟩ v).cell? ⟨w1.heap.size + 1, j, none⟩ = W.cell? ⟨w1.heap.size + 1, j, none⟩ := fun W i j v => cset_b _ _ _ _ _ _ (by omega)
  have R5 : ∀ (W : World) i j v, (W.setCell ⟨w.heap.size + 1, i, none⟩ v).cell? ⟨w1.heap.size, j, none⟩ = W.cell? ⟨w1.heap.size, j, none⟩ := fun W i j v => cset_b _ _ _ _ _ _ (by omega)
  have R6 : ∀ (W : World) i j v, (W.setCell ⟨w.heap.size + 1, i, none⟩ v).cell? ⟨w1.heap.size + 1, j, none⟩ = W.cell? ⟨w1.heap.size + 1, j, none⟩ := fun W i j v => cset_b _ _ _ _ _ _ (by omega)
  have RR := Lib.hid (And.intro R1 (And.intro R2 (And.intro R3 (And.intro R4 (And.intro R5 R6)))))
  clear R1 R2 R3 R4 R5 R6
  cases r
  · have XX := X2
    have YY := Y2
    have AA := A2
    have EE := E2
    have HB := HB2
    clear X2 Y2 A2 E2 HB2 HC2
    go_wp2_with fail
    obtain ⟨x0, x1, x2, x3, xf⟩ := XX.out.four
    obtain ⟨y0, y1, y2, y3, yf⟩ := YY.out.four
    obtain ⟨a0, a1, a2, a3, af⟩ := AA.out.four
    obtain ⟨k0, k1, k2, k3, kf⟩ := EE.out.four
    obtain ⟨R1, R2, R3, R4, R5, R6⟩ := RR.out
    go_region
    all_goals
      go_wp2
      first
        | exact bodyPost_ret (v := .tuple #[.agg #[.int .i64 c, .int .i64 k, .int .i64 a, .int .i64 t], .agg #[.int .i64 c', .int .i64 k', .int .i64 a', .int .i64 t']]) (by simp [results, Tryd.results22, go_sem, x0, x1, x2, x3, y0, y1, y2, y3, R1, R2]) rfl ⟨⟨_, _, _, _, _, _, _, _, rfl⟩, (sets_below' (sets_below' HB.out (Nat.le_refl _) _ _ _ _) (Nat.le_succ _) _ _ _ _).drew⟩
        | exact bodyPost_ret (v := .tuple #[.agg #[.int .i64 c, .int .i64 k, .int .i64 a, .int .i64 t], .agg #[.int .i64 c', .int .i64 k', .int .i64 a', .int .i64 t']]) (by simp [results, Tryd.results22, go_sem, x0, x1, x2, x3, y0, y1, y2, y3, R1, R2]) rfl ⟨⟨_, _, _, _, _, _, _, _, rfl⟩, (sets_below' (sets_below' HB.out (Nat.le_succ _) _ _ _ _) (Nat.le_refl _) _ _ _ _).drew⟩
  · obtain ⟨a0, a1, a2, a3, af⟩ := A2.out.four
    obtain ⟨m0, m1, m2, m3, mf⟩ := E2.out.four
    have gs := grown4 w2 (w1.heap.size + 1) (.int .i64 c) (.int .i64 k) (.int .i64 a) (.int .i64 t)
    have E3 := Lib.hid (BoxF.all4 (v0 := .int .i64 c) (v1 := .int .i64 k) (v2 := .int .i64 a) (v3 := .int .i64 t) E2.out)
    have hz3 := gs.size
    have X3 := Lib.hid (X2.out.kept gs (by first | (simp; done) | (simp; omega)))
    have Y3 := Lib.hid (Y2.out.kept gs (by first | (simp; done) | (simp; omega)))
    have A3 := Lib.hid (A2.out.kept gs (by first | (simp; done) | (simp; omega)))
    have HC3 := Lib.hid (HC2.out.kept gs (fun q hq => by cases hq; omega))
    have HB3 := Lib.hid (HB2.out.grown gs (by omega) (fun q hq => by cases hq; omega))
    clear gs X2 Y2 A2 E2 HC2 HB2
    go_wp2_with fail
    clear a0 a1 a2 a3 af m0 m1 m2 m3 mf
    generalize (((w2.setCell ⟨w1.heap.size + 1, 0, none⟩ (.int .i64 c)).setCell ⟨w1.heap.size + 1, 1, none⟩ (.int .i64 k)).setCell ⟨w1.heap.size + 1, 2, none⟩ (.int .i64 a)).setCell ⟨w1.heap.size + 1, 3, none⟩ (.int .i64 t) = W3 at *
    refine (pick_any (w.heap.size + 1 + 1) (w.heap.size + 1 + 1) x n cap _ _ HC3.out (by omega) hn 3 (by omega) (by omega)).mono ?_
    rintro e w3 ⟨⟨y, rfl, hy0, hy1⟩, hc3, hg3⟩
    have yw : IntKind.i64.wrap (1 + y) = 1 + y := IntWalk.i64_in _ (by omega)
    have hz4 := hg3.size
    have E4 := E3.out.kept hg3 (by first | (simp; done) | (simp; omega))
    have gs := grownBy_set w3 (w1.heap.size + 1) 0 (.int .i64 (1 + y))
    have E5 := E4.set 0 (.int .i64 (1 + y))
    simp only [List.set_cons_zero] at E5
    have XX := Lib.hid ((X3.out.kept hg3 (by first | (simp; done) | (simp; omega))).kept gs (by first | (simp; done) | (simp; omega)))
    have YY := Lib.hid ((Y3.out.kept hg3 (by first | (simp; done) | (simp; omega))).kept gs (by first | (simp; done) | (simp; omega)))
    have AA := Lib.hid ((A3.out.kept hg3 (by first | (simp; done) | (simp; omega))).kept gs (by first | (simp; done) | (simp; omega)))
    have HB := Lib.hid ((HB3.out.grown hg3 (by omega) (fun q hq => by cases hq; omega)).grown gs (by omega) (fun q hq => by cases hq; omega))
    obtain ⟨m0, m1, m2, m3, mf⟩ := E4.four
    have EE : Hid (BoxF _ _ [.int .i64 (1 + y), .int .i64 k, .int .i64 a, .int .i64 t] _) := Lib.hid E5
    clear hc3 hg3 E3 E4 gs E5 HC3 X3 Y3 A3 HB3
    go_wp2_with fail
    clear m0 m1 m2 m3 mf
    generalize w3.setCell ⟨w1.heap.size + 1, 0, none⟩ (.int .i64 (1 + y)) = W4 at *
    obtain ⟨x0, x1, x2, x3, xf⟩ := XX.out.four
    obtain ⟨y0, y1, y2, y3, yf⟩ := YY.out.four
    obtain ⟨a0, a1, a2, a3, af⟩ := AA.out.four
    obtain ⟨k0, k1, k2, k3, kf⟩ := EE.out.four
    obtain ⟨R1, R2, R3, R4, R5, R6⟩ := RR.out
    go_region
    all_goals
      go_wp2
      first
        | exact bodyPost_ret (v := .tuple #[.agg #[.int .i64 c, .int .i64 k, .int .i64 a, .int .i64 t], .agg #[.int .i64 (1 + y), .int .i64 k, .int .i64 a, .int .i64 t]]) (by simp [results, Tryd.results22, go_sem, x0, x1, x2, x3, y0, y1, y2, y3, R1, R2]) rfl ⟨⟨_, _, _, _, _, _, _, _, rfl⟩, (sets_below' (sets_below' HB.out (Nat.le_refl _) _ _ _ _) (Nat.le_succ _) _ _ _ _).drew⟩
        | exact bodyPost_ret (v := .tuple #[.agg #[.int .i64 c, .int .i64 k, .int .i64 a, .int .i64 t], .agg #[.int .i64 (1 + y), .int .i64 k, .int .i64 a, .int .i64 t]]) (by simp [results, Tryd.results22, go_sem, x0, x1, x2, x3, y0, y1, y2, y3, R1, R2]) rfl ⟨⟨_, _, _, _, _, _, _, _, rfl⟩, (sets_below' (sets_below' HB.out (Nat.le_succ _) _ _ _ _) (Nat.le_refl _) _ _ _ _).drew⟩
end Go.Proofs.YtklfkdmmclomoaaDoor
