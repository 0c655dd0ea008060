/- Contracts: the draws of arms and a place, of arms with a chief, of a field. -/
import Derived.Test.YtmmbhglmafnfpabDoorKO2
import Derived.Test.YtmmbhglmafnfpabDoorKO1
namespace Go.Proofs.YtmmbhglmafnfpabDoor
open Go.RowKit

theorem RdB.keptQ {w w' : World} {a : Option Addr} {n : Nat} (h : RdB w w.heap.size a n) (hb : Below w.heap.size w w') : RdB w' w.heap.size a n := by
  intro hn
  obtain ⟨b, o, e, hlt, hc⟩ := h hn
  refine ⟨b, o, e, hlt, fun k hk => ?_⟩
  obtain ⟨x, hx, h0, h1⟩ := hc k hk
  exact ⟨x, (hb.cell (p := ⟨b, o + k, none⟩) hlt).trans hx, h0, h1⟩
/-- Some field was drawn. -/
def QField (w : World) (e : Ending) (w' : World) : Prop := (∃ d l f s : Int, e = .returned (.agg #[.int .i64 d, .int .i64 l, .int .i64 f, .int .i64 s])) ∧ Below w.heap.size w w'
set_option maxHeartbeats 1000000 in
theorem drawPoor_any (a : Option Addr) (n cap : Nat) (w : World) (h : RdB w w.heap.size a n) (hn : n ≤ 65536) :
    Calls Tryd.prog 17 #[.slice a n cap] w (QField w) := by
  have b0 := Lib.hid (BoxF.new w [.int .i64 0, .int .i64 0, .int .i64 0, .int .i64 0] 25)
  have hB0 : Below w.heap.size w (w.alloc (.cells #[.int .i64 0, .int .i64 0, .int .i64 0, .int .i64 0] 25 (0, 0))) := (Below.refl _ w).alloc (Nat.le_refl _) _
  have hc := isCur_new cap (h.on hB0)
  rw [World.size_alloc] at hc
  have hc0 := Lib.hid hc
  clear h hc
  go_enter Tryd.func17, Tryd.ntmps17
  go_wp2_with fail
  refine (anyField_any (w.heap.size + 1) (w.heap.size + 1) a n cap 0 _ hc0.out (by omega) hn).mono ?_
  rintro e w1 ⟨⟨d, l, f, s, rfl⟩, hc1, hg1⟩
  have b1 := (b0.out.alloc _).kept hg1 (by simp)
  obtain ⟨k0, k1, k2, k3, kf⟩ := b1.four
  have HB := Lib.hid ((hB0.alloc (by simp) (.cells #[.slice a n cap, .int .i64 0, .int .u64 0] 66 (0, 0))).grown hg1 (by simp; omega) (fun q hq => by cases hq; omega))
  clear hc1 hg1 hc0 b0 b1 hB0
  go_wp2_with fail
  exact bodyPost_ret (v := .agg #[.int .i64 d, .int .i64 l, .int .i64 f, .int .i64 s]) (by simp [results, Tryd.results17, go_sem, k0, k1, k2, k3]) rfl ⟨⟨_, _, _, _, rfl⟩, HB.out.grown (grown4 _ _ _ _ _ _) HB.out.size (fun k hk => by cases hk; exact Nat.le_refl _)⟩
set_option maxRecDepth 100000 in
set_option maxHeartbeats 8000000 in
theorem drawAllow_any (x : Option Addr) (n cap : Nat) (w : World) (h : RdB w w.heap.size x n) (hn : n ≤ 65536) :
    Calls Tryd.prog 7 #[.slice x n cap] w fun e w' => (∃ d l f s o ln tn c k a t c' k' a' t' y : Int, e = .returned (.tuple #[.agg #[.int .i64 d, .int .i64 l, .int .i64 f, .int .i64 s, .int .i64 o, .int .i64 ln, .int .i64 tn, .int .i64 c, .int .i64 k, .int .i64 a, .int .i64 t, .int .i64 c', .int .i64 k', .int .i64 a', .int .i64 t'], .int .i64 y])) ∧ Below w.heap.size w w' := by
  have b0 := BoxF.new w [.int .i64 0, .int .i64 0, .int .i64 0, .int .i64 0, .int .i64 0, .int .i64 0, .int .i64 0, .int .i64 0, .int .i64 0, .int .i64 0, .int .i64 0, .int .i64 0, .int .i64 0, .int .i64 0, .int .i64 0] 29
  have hB0 : Below w.heap.size w (w.alloc (.cells #[.int .i64 0, .int .i64 0, .int .i64 0, .int .i64 0, .int .i64 0, .int .i64 0, .int .i64 0, .int .i64 0, .int .i64 0, .int .i64 0, .int .i64 0, .int .i64 0, .int .i64 0, .int .i64 0, .int .i64 0] 29 (0, 0))) := (Below.refl _ w).alloc (Nat.le_refl _) _
  have hc := isCur_new cap (h.on hB0)
  simp only [World.size_alloc] at hc
  have hB1 := hB0.alloc (by simp) (.cells #[.slice x n cap, .int .i64 0, .int .u64 0] 66 (0, 0))
  have hc : IsCur _ w.heap.size (w.heap.size + 1) x n cap 0 := ⟨by omega, h.keptQ hB1, hc.2.2⟩
  have HC0 := Lib.hid hc
  have XR0 := Lib.hid (b0.alloc (.cells #[.slice x n cap, .int .i64 0, .int .u64 0] 66 (0, 0)))
  have HB0 := Lib.hid hB1
  clear h hc b0 hB0 hB1
  go_enter Tryd.func7, Tryd.ntmps7
  go_wp2_with fail
  refine (anyArms_any w.heap.size (w.heap.size + 1) x n cap 0 _ HC0.out (by omega) hn).mono ?_
  rintro e w1 ⟨⟨d, l, f, s, o, ln, tn, c, k, a, t, c', k', a', t', rfl⟩, hc1, hg1⟩
  have hs1 : w.heap.size + 1 < w1.heap.size := hc1.lt
  have HC1 := Lib.hid (hc1.alloc (.cells #[.int .i64 1, .int .i64 2, .int .i64 3, .int .i64 0, .int .i64 4] 3))
  have XR1 := Lib.hid ((XR0.out.kept hg1 (by first | (simp; done) | (simp; omega))).alloc (.cells #[.int .i64 1, .int .i64 2, .int .i64 3, .int .i64 0, .int .i64 4] 3))
  have HB1 := HB0.out.grown hg1 (by simp; omega) (fun q hq => by cases hq; omega)
  have HB1 := Lib.hid (HB1.alloc HB1.size (.cells #[.int .i64 1, .int .i64 2, .int .i64 3, .int .i64 0, .int .i64 4] 3))
  have hrow := numRowP_alloc w1 #[.int .i64 1, .int .i64 2, .int .i64 3, .int .i64 0, .int .i64 4] 3 (fun _ => True) 5 rfl (by simp [isNumP])
  clear hc1 hg1 HC0 XR0 HB0
  go_wp2_with fail
  refine (pick_any w.heap.size (w.heap.size + 1) x n cap _ _ HC1.out (by omega) hn 24 (by omega) (by omega)).mono ?_
  rintro e w2 ⟨⟨r, rfl, hr0, hr1⟩, hc2, hg2⟩
  have hrow2 : NumRowP w2 w1.heap.size 5 (fun _ => True) := fun q hq => by
    obtain ⟨v, hv, hT⟩ := hrow q hq
    exact ⟨v, (World.cell?_of_block (hg2.block w1.heap.size (by simp) (by simp; omega))).trans hv, hT⟩
  have hs2 : w1.heap.size < w2.heap.size := Nat.lt_of_lt_of_le (by simp) hg2.size
  have HC2 := Lib.hid hc2
  have XR2 := Lib.hid (XR1.out.kept hg2 (by first | (simp; done) | (simp; omega)))
  have HB2 := Lib.hid (HB1.out.grown hg2 HB1.out.size (fun q hq => by cases hq; omega))
  clear hc2 hg2 HC1 XR1 HB1 hrow
  have h3 : r.tdiv 11 = 0 ∨ r.tdiv 11 = 1 ∨ r.tdiv 11 = 2 := by rw [Int.tdiv_eq_ediv_of_nonneg hr0]; omega
  rcases h3 with h3 | h3 | h3
  · have hq : IntKind.i64.wrap (r.tdiv 11) = 0 := by rw [h3]; decide
    have hq2 : wrap64 (r.tdiv 11) = 0 := by rw [h3]; simp [wrap64]
    have hq3 : wrap64 (3 + wrap64 (r.tdiv 11)) = 3 := by rw [h3]; simp [wrap64]
    clear h3
    clear hr0 hr1
    go_wp2_with fail
    clear hq hq2 hq3
    refine (among_p w.heap.size (w.heap.size + 1) x n cap _ _ HC2.out (by omega) hn w1.heap.size 3 5 (fun _ => True) (by omega) (by omega) (fun q hq => hrow2 q (by omega)) (by omega) (by omega)).mono ?_
    rintro e w3 ⟨⟨y, rfl, _⟩, hc3, hg3⟩
    have XR3 := XR2.out.kept hg3 (by first | (simp; done) | (simp; omega))
    have HB3 := Lib.hid (HB2.out.grown hg3 HB2.out.size (fun q hq => by cases hq; omega))
    clear hc3 hg3 HC2 XR2 HB2 hrow2
    have t_ := XR3.ther (n := 15) rfl
    go_wp2_with (with_reducible refine isList ?_; (set_option maxRecDepth 100000 in refine st15 2 9 w.heap.size [.int .i64 d, .int .i64 l, .int .i64 f, .int .i64 s, .int .i64 o, .int .i64 ln, .int .i64 tn, .int .i64 c, .int .i64 k, .int .i64 a, .int .i64 t, .int .i64 c', .int .i64 k', .int .i64 a', .int .i64 t'] rfl rfl rfl rfl rfl ?_ ?_ ?_); exact t_; simp [Value.oneCell'])
    clear t_
    have g3 := setc_grown w3 w.heap.size [.int .i64 d, .int .i64 l, .int .i64 f, .int .i64 s, .int .i64 o, .int .i64 ln, .int .i64 tn, .int .i64 c, .int .i64 k, .int .i64 a, .int .i64 t, .int .i64 c', .int .i64 k', .int .i64 a', .int .i64 t']
    have BR : BoxF (w3.setCells w.heap.size 0 [.int .i64 d, .int .i64 l, .int .i64 f, .int .i64 s, .int .i64 o, .int .i64 ln, .int .i64 tn, .int .i64 c, .int .i64 k, .int .i64 a, .int .i64 t, .int .i64 c', .int .i64 k', .int .i64 a', .int .i64 t']) w.heap.size [.int .i64 d, .int .i64 l, .int .i64 f, .int .i64 s, .int .i64 o, .int .i64 ln, .int .i64 tn, .int .i64 c, .int .i64 k, .int .i64 a, .int .i64 t, .int .i64 c', .int .i64 k', .int .i64 a', .int .i64 t'] 29 := BoxF.setAll (vs := [.int .i64 d, .int .i64 l, .int .i64 f, .int .i64 s, .int .i64 o, .int .i64 ln, .int .i64 tn, .int .i64 c, .int .i64 k, .int .i64 a, .int .i64 t, .int .i64 c', .int .i64 k', .int .i64 a', .int .i64 t']) XR3
    have HB4 := HB3.out.grown g3 HB3.out.size (fun q hq => by cases hq; exact Nat.le_refl _)
    generalize w3.setCells w.heap.size 0 [.int .i64 d, .int .i64 l, .int .i64 f, .int .i64 s, .int .i64 o, .int .i64 ln, .int .i64 tn, .int .i64 c, .int .i64 k, .int .i64 a, .int .i64 t, .int .i64 c', .int .i64 k', .int .i64 a', .int .i64 t'] = WE at *
    obtain ⟨z0, z1, z2, z3, z4, z5, z6, z7, z8, z9, z10, z11, z12, z13, z14, zf⟩ := BR.fifteen
    exact bodyPost_ret (v := .tuple #[.agg #[.int .i64 d, .int .i64 l, .int .i64 f, .int .i64 s, .int .i64 o, .int .i64 ln, .int .i64 tn, .int .i64 c, .int .i64 k, .int .i64 a, .int .i64 t, .int .i64 c', .int .i64 k', .int .i64 a', .int .i64 t'], .int .i64 y]) (by simp [results, Tryd.results7, go_sem, z0, z1, z2, z3, z4, z5, z6, z7, z8, z9, z10, z11, z12, z13, z14]) rfl ⟨⟨_, _, _, _, _, _, _, _, _, _, _, _, _, _, _, _, rfl⟩, HB4⟩
  · have hq : IntKind.i64.wrap (r.tdiv 11) = 1 := by rw [h3]; decide
    have hq2 : wrap64 (r.tdiv 11) = 1 := by rw [h3]; simp [wrap64]
    have hq3 : wrap64 (3 + wrap64 (r.tdiv 11)) = 4 := by rw [h3]; simp [wrap64]
    clear h3
    clear hr0 hr1
    go_wp2_with fail
    clear hq hq2 hq3
    refine (among_p w.heap.size (w.heap.size + 1) x n cap _ _ HC2.out (by omega) hn w1.heap.size 4 5 (fun _ => True) (by omega) (by omega) (fun q hq => hrow2 q (by omega)) (by omega) (by omega)).mono ?_
    rintro e w3 ⟨⟨y, rfl, _⟩, hc3, hg3⟩
    have XR3 := XR2.out.kept hg3 (by first | (simp; done) | (simp; omega))
    have HB3 := Lib.hid (HB2.out.grown hg3 HB2.out.size (fun q hq => by cases hq; omega))
    clear hc3 hg3 HC2 XR2 HB2 hrow2
    have t_ := XR3.ther (n := 15) rfl
    go_wp2_with (with_reducible refine isList ?_; (set_option maxRecDepth 100000 in refine st15 2 9 w.heap.size [.int .i64 d, .int .i64 l, .int .i64 f, .int .i64 s, .int .i64 o, .int .i64 ln, .int .i64 tn, .int .i64 c, .int .i64 k, .int .i64 a, .int .i64 t, .int .i64 c', .int .i64 k', .int .i64 a', .int .i64 t'] rfl rfl rfl rfl rfl ?_ ?_ ?_); exact t_; simp [Value.oneCell'])
    clear t_
    have g3 := setc_grown w3 w.heap.size [.int .i64 d, .int .i64 l, .int .i64 f, .int .i64 s, .int .i64 o, .int .i64 ln, .int .i64 tn, .int .i64 c, .int .i64 k, .int .i64 a, .int .i64 t, .int .i64 c', .int .i64 k', .int .i64 a', .int .i64 t']
    have BR : BoxF (w3.setCells w.heap.size 0 [.int .i64 d, .int .i64 l, .int .i64 f, .int .i64 s, .int .i64 o, .int .i64 ln, .int .i64 tn, .int .i64 c, .int .i64 k, .int .i64 a, .int .i64 t, .int .i64 c', .int .i64 k', .int .i64 a', .int .i64 t']) w.heap.size [.int .i64 d, .int .i64 l, .int .i64 f, .int .i64 s, .int .i64 o, .int .i64 ln, .int .i64 tn, .int .i64 c, .int .i64 k, .int .i64 a, .int .i64 t, .int .i64 c', .int .i64 k', .int .i64 a', .int .i64 t'] 29 := BoxF.setAll (vs := [.int .i64 d, .int .i64 l, .int .i64 f, .int .i64 s, .int .i64 o, .int .i64 ln, .int .i64 tn, .int .i64 c, .int .i64 k, .int .i64 a, .int .i64 t, .int .i64 c', .int .i64 k', .int .i64 a', .int .i64 t']) XR3
    have HB4 := HB3.out.grown g3 HB3.out.size (fun q hq => by cases hq; exact Nat.le_refl _)
    generalize w3.setCells w.heap.size 0 [.int .i64 d, .int .i64 l, .int .i64 f, .int .i64 s, .int .i64 o, .int .i64 ln, .int .i64 tn, .int .i64 c, .int .i64 k, .int .i64 a, .int .i64 t, .int .i64 c', .int .i64 k', .int .i64 a', .int .i64 t'] = WE at *
    obtain ⟨z0, z1, z2, z3, z4, z5, z6, z7, z8, z9, z10, z11, z12, z13, z14, zf⟩ := BR.fifteen
    exact bodyPost_ret (v := .tuple #[.agg #[.int .i64 d, .int .i64 l, .int .i64 f, .int .i64 s, .int .i64 o, .int .i64 ln, .int .i64 tn, .int .i64 c, .int .i64 k, .int .i64 a, .int .i64 t, .int .i64 c', .int .i64 k', .int .i64 a', .int .i64 t'], .int .i64 y]) (by simp [results, Tryd.results7, go_sem, z0, z1, z2, z3, z4, z5, z6, z7, z8, z9, z10, z11, z12, z13, z14]) rfl ⟨⟨_, _, _, _, _, _, _, _, _, _, _, _, _, _, _, _, rfl⟩, HB4⟩
  · have hq : IntKind.i64.wrap (r.tdiv 11) = 2 := by rw [h3]; decide
    have hq2 : wrap64 (r.tdiv 11) = 2 := by rw [h3]; simp [wrap64]
    have hq3 : wrap64 (3 + wrap64 (r.tdiv 11)) = 5 := by rw [h3]; simp [wrap64]
    clear h3
    clear hr0 hr1
    go_wp2_with fail
    clear hq hq2 hq3
    refine (among_p w.heap.size (w.heap.size + 1) x n cap _ _ HC2.out (by omega) hn w1.heap.size 5 5 (fun _ => True) (by omega) (by omega) (fun q hq => hrow2 q (by omega)) (by omega) (by omega)).mono ?_
    rintro e w3 ⟨⟨y, rfl, _⟩, hc3, hg3⟩
    have XR3 := XR2.out.kept hg3 (by first | (simp; done) | (simp; omega))
    have HB3 := Lib.hid (HB2.out.grown hg3 HB2.out.size (fun q hq => by cases hq; omega))
    clear hc3 hg3 HC2 XR2 HB2 hrow2
    have t_ := XR3.ther (n := 15) rfl
    go_wp2_with (with_reducible refine isList ?_; (set_option maxRecDepth 100000 in refine st15 2 9 w.heap.size [.int .i64 d, .int .i64 l, .int .i64 f, .int .i64 s, .int .i64 o, .int .i64 ln, .int .i64 tn, .int .i64 c, .int .i64 k, .int .i64 a, .int .i64 t, .int .i64 c', .int .i64 k', .int .i64 a', .int .i64 t'] rfl rfl rfl rfl rfl ?_ ?_ ?_); exact t_; simp [Value.oneCell'])
    clear t_
    have g3 := setc_grown w3 w.heap.size [.int .i64 d, .int .i64 l, .int .i64 f, .int .i64 s, .int .i64 o, .int .i64 ln, .int .i64 tn, .int .i64 c, .int .i64 k, .int .i64 a, .int .i64 t, .int .i64 c', .int .i64 k', .int .i64 a', .int .i64 t']
    have BR : BoxF (w3.setCells w.heap.size 0 [.int .i64 d, .int .i64 l, .int .i64 f, .int .i64 s, .int .i64 o, .int .i64 ln, .int .i64 tn, .int .i64 c, .int .i64 k, .int .i64 a, .int .i64 t, .int .i64 c', .int .i64 k', .int .i64 a', .int .i64 t']) w.heap.size [.int .i64 d, .int .i64 l, .int .i64 f, .int .i64 s, .int .i64 o, .int .i64 ln, .int .i64 tn, .int .i64 c, .int .i64 k, .int .i64 a, .int .i64 t, .int .i64 c', .int .i64 k', .int .i64 a', .int .i64 t'] 29 := BoxF.setAll (vs := [.int .i64 d, .int .i64 l, .int .i64 f, .int .i64 s, .int .i64 o, .int .i64 ln, .int .i64 tn, .int .i64 c, .int .i64 k, .int .i64 a, .int .i64 t, .int .i64 c', .int .i64 k', .int .i64 a', .int .i64 t']) XR3
    have HB4 := HB3.out.grown g3 HB3.out.size (fun q hq => by cases hq; exact Nat.le_refl _)
    generalize w3.setCells w.heap.size 0 [.int .i64 d, .int .i64 l, .int .i64 f, .int .i64 s, .int .i64 o, .int .i64 ln, .int .i64 tn, .int .i64 c, .int .i64 k, .int .i64 a, .int .i64 t, .int .i64 c', .int .i64 k', .int .i64 a', .int .i64 t'] = WE at *
    obtain ⟨z0, z1, z2, z3, z4, z5, z6, z7, z8, z9, z10, z11, z12, z13, z14, zf⟩ := BR.fifteen
    exact bodyPost_ret (v := .tuple #[.agg #[.int .i64 d, .int .i64 l, .int .i64 f, .int .i64 s, .int .i64 o, .int .i64 ln, .int .i64 tn, .int .i64 c, .int .i64 k, .int .i64 a, .int .i64 t, .int .i64 c', .int .i64 k', .int .i64 a', .int .i64 t'], .int .i64 y]) (by simp [results, Tryd.results7, go_sem, z0, z1, z2, z3, z4, z5, z6, z7, z8, z9, z10, z11, z12, z13, z14]) rfl ⟨⟨_, _, _, _, _, _, _, _, _, _, _, _, _, _, _, _, rfl⟩, HB4⟩
end Go.Proofs.YtmmbhglmafnfpabDoor
