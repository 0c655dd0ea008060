/- Contract: the draw of arms and two numbers that may be tinctures. -/
import Derived.Test.YtpcghkciibbmgaaDoorDrawArms2
import Derived.Deep.RegionHeld3
import Derived.Deep.DeepCutAuto
namespace Go.Proofs.YtpcghkciibbmgaaDoor
open Go.RowKit

/-- A box at D, and all that was there. -/
def JD (w : World) (D : Nat) (L : List Value) (t : TypeId) (W : World) : Prop := BoxF W D L t ∧ Below w.heap.size w W
theorem jd_of {w W : World} {D : Nat} {L : List Value} {t : TypeId} (h : JD w D L t W) : W.rangeAt D 0 L ∧ JD w D L t W := ⟨h.1.range, h⟩
theorem jd_jd {w W : World} {D : Nat} {L : List Value} {t : TypeId} (h : W.rangeAt D 0 L ∧ JD w D L t W) : JD w D L t W := h.2
theorem jd_drew {w W : World} {D : Nat} {L : List Value} {t : TypeId} (h : W.rangeAt D 0 L ∧ JD w D L t W) : W.drew.rangeAt D 0 L ∧ JD w D L t W.drew := jd_of ⟨(jd_jd h).1, (jd_jd h).2.drew⟩
theorem jd_kept {w W W' : World} {D p : Nat} {L : List Value} {t : TypeId} (h : W.rangeAt D 0 L ∧ JD w D L t W) (hg : W.grownBy W' (some p)) (hp : D ≠ p) (hw : w.heap.size ≤ p) : W'.rangeAt D 0 L ∧ JD w D L t W' :=
  jd_of ⟨(jd_jd h).1.kept hg (by simpa using hp), (jd_jd h).2.grown hg (jd_jd h).2.size (fun k hk => by cases hk; exact hw)⟩
theorem jd_setc {w W : World} {D R : Nat} {L : List Value} {t : TypeId} (V : List Value) (hR : D ≠ R) (hw : w.heap.size ≤ R) (h : W.rangeAt D 0 L ∧ JD w D L t W) : (W.setCells R 0 V).rangeAt D 0 L ∧ JD w D L t (W.setCells R 0 V) := jd_kept h (setc_grown W R V) hR hw
theorem IsCur.drew {w : World} {B p : Nat} {x : Option Addr} {n cap M : Nat} (h : IsCur w B p x n cap M) : IsCur w.drew B p x n cap M := h
theorem IsCur.apart {w w' : World} {B p k : Nat} {a : Option Addr} {n cap M : Nat} (h : IsCur w B p a n cap M) (hg : w.grownBy w' (some k)) (hk : B ≤ k) (hp : k ≠ p) : IsCur w' B p a n cap M := by
  have hlt := h.lt
  obtain ⟨hB, hR, at_, seed, hat, hq⟩ := h
  refine ⟨hB, fun hn => ?_, at_, seed, hat, (hg.block p hlt (fun e => hp (Option.some.inj e).symm)).trans hq⟩
  obtain ⟨b, o, e, hb, hc⟩ := hR hn
  refine ⟨b, o, e, hb, fun k' hk' => ?_⟩
  obtain ⟨x, hx, h0, h1⟩ := hc k' hk'
  exact ⟨x, (World.cell?_of_block (hg.block b (by omega) (fun e => by have := Option.some.inj e; omega))).trans hx, h0, h1⟩
theorem RdB.keep {w w' : World} {a : Option Addr} {n : Nat} (h : RdB w w.heap.size a n) (hb : Below w.heap.size w w') : RdB w' w.heap.size a n := by
  intro hn
  obtain ⟨b, o, e, hlt, hc⟩ := h hn
  refine ⟨b, o, e, hlt, fun k hk => ?_⟩
  obtain ⟨x, hx, h0, h1⟩ := hc k hk
  exact ⟨x, (hb.cell (p := ⟨b, o + k, none⟩) hlt).trans hx, h0, h1⟩
theorem BoxF.drewR {w : World} {b : Nat} {L : List Value} {t : TypeId} (h : BoxF w b L t) : BoxF w.drew b L t := h
set_option maxRecDepth 100000 in
set_option maxHeartbeats 20000000 in
theorem drawRep_any (x : Option Addr) (n cap : Nat) (w : World) (h : RdB w w.heap.size x n) (hn : n ≤ 65536) :
    Calls Tryd.prog 6 #[.slice x n cap] w fun e w' => (∃ d l f s o ln tn c k a t c' k' a' t' old y : Int, e = .returned (.tuple #[.agg #[.int .i64 d, .int .i64 l, .int .i64 f, .int .i64 s, .int .i64 o, .int .i64 ln, .int .i64 tn, .int .i64 c, .int .i64 k, .int .i64 a, .int .i64 t, .int .i64 c', .int .i64 k', .int .i64 a', .int .i64 t'], .int .i64 old, .int .i64 y])) ∧ Below w.heap.size w w' := by
  have b0 := BoxF.new w [.int .i64 0, .int .i64 0, .int .i64 0, .int .i64 0, .int .i64 0, .int .i64 0, .int .i64 0, .int .i64 0, .int .i64 0, .int .i64 0, .int .i64 0, .int .i64 0, .int .i64 0, .int .i64 0, .int .i64 0] 29
  have hB0 : Below w.heap.size w (w.alloc (.cells #[.int .i64 0, .int .i64 0, .int .i64 0, .int .i64 0, .int .i64 0, .int .i64 0, .int .i64 0, .int .i64 0, .int .i64 0, .int .i64 0, .int .i64 0, .int .i64 0, .int .i64 0, .int .i64 0, .int .i64 0] 29 (0, 0))) := (Below.refl _ w).alloc (Nat.le_refl _) _
  have hc := isCur_new cap (h.on hB0)
  simp only [World.size_alloc] at hc
  have hB1 := hB0.alloc (by simp) (.cells #[.slice x n cap, .int .i64 0, .int .u64 0] 55 (0, 0))
  have hc : IsCur _ w.heap.size (w.heap.size + 1) x n cap 0 := ⟨by omega, h.keep hB1, hc.2.2⟩
  clear hB1
  have HC0 := Lib.hid hc
  have XR0 := Lib.hid (b0.alloc (.cells #[.slice x n cap, .int .i64 0, .int .u64 0] 55 (0, 0)))
  have HB0 := Lib.hid (hB0.alloc (by simp) (.cells #[.slice x n cap, .int .i64 0, .int .u64 0] 55 (0, 0)))
  clear h hc b0 hB0
  go_enter Tryd.func6, Tryd.ntmps6
  go_wp2_with fail
  refine (anyArms_any w.heap.size (w.heap.size + 1) x n cap 0 _ HC0.out (by omega) hn).mono ?_
  rintro e w1 ⟨⟨d, l, f, s, o, ln, tn, c, k, a, t, c', k', a', t', rfl⟩, hc1, hg1⟩
  have hz1 := hg1.size
  simp only [World.size_alloc] at hz1
  have XA1 := BoxF.new w1 [.int .i64 d, .int .i64 l, .int .i64 f, .int .i64 s, .int .i64 o, .int .i64 ln, .int .i64 tn, .int .i64 c, .int .i64 k, .int .i64 a, .int .i64 t, .int .i64 c', .int .i64 k', .int .i64 a', .int .i64 t'] 29
  have XR1 := Lib.hid ((XR0.out.kept hg1 (by first | (simp; done) | (simp; omega))).alloc (.cells #[.int .i64 d, .int .i64 l, .int .i64 f, .int .i64 s, .int .i64 o, .int .i64 ln, .int .i64 tn, .int .i64 c, .int .i64 k, .int .i64 a, .int .i64 t, .int .i64 c', .int .i64 k', .int .i64 a', .int .i64 t'] 29 (0, 0)))
  have HC1 := Lib.hid (hc1.alloc (.cells #[.int .i64 d, .int .i64 l, .int .i64 f, .int .i64 s, .int .i64 o, .int .i64 ln, .int .i64 tn, .int .i64 c, .int .i64 k, .int .i64 a, .int .i64 t, .int .i64 c', .int .i64 k', .int .i64 a', .int .i64 t'] 29 (0, 0)))
  have HB1 := Lib.hid ((HB0.out.grown hg1 (by simp; omega) (fun q hq => by cases hq; omega)).alloc (by omega) (.cells #[.int .i64 d, .int .i64 l, .int .i64 f, .int .i64 s, .int .i64 o, .int .i64 ln, .int .i64 tn, .int .i64 c, .int .i64 k, .int .i64 a, .int .i64 t, .int .i64 c', .int .i64 k', .int .i64 a', .int .i64 t'] 29 (0, 0)))
  clear hc1 hg1 HC0 XR0 HB0
  go_wp2_with fail
  obtain ⟨D, hDe⟩ : ∃ D, w1.heap.size = D := ⟨_, rfl⟩
  have hD : w.heap.size + 1 < D := by omega
  rw [hDe] at XA1 ⊢
  have XA1 := Lib.hid XA1
  clear hz1 hDe
  generalize w1.alloc (.cells #[.int .i64 d, .int .i64 l, .int .i64 f, .int .i64 s, .int .i64 o, .int .i64 ln, .int .i64 tn, .int .i64 c, .int .i64 k, .int .i64 a, .int .i64 t, .int .i64 c', .int .i64 k', .int .i64 a', .int .i64 t'] 29 (0, 0)) = W1 at *
  refine (one_any w.heap.size (w.heap.size + 1) x n cap _ _ HC1.out (by omega) hn 2 (by omega) (by omega)).mono ?_
  rintro e w2 ⟨⟨b, rfl⟩, hc2, hg2⟩
  have XA2 := Lib.hid (XA1.out.kept hg2 (by first | (simp; done) | (simp; omega)))
  have XR2 := Lib.hid (XR1.out.kept hg2 (by first | (simp; done) | (simp; omega)))
  have HC2 := Lib.hid hc2
  have HB2 := Lib.hid (HB1.out.grown hg2 HB1.out.size (fun q hq => by cases hq; omega))
  clear hc2 hg2 HC1 XA1 XR1 HB1
  have CT := Lib.hid (fun W M (hS : W.rangeAt D 0 [.int .i64 d, .int .i64 l, .int .i64 f, .int .i64 s, .int .i64 o, .int .i64 ln, .int .i64 tn, .int .i64 c, .int .i64 k, .int .i64 a, .int .i64 t, .int .i64 c', .int .i64 k', .int .i64 a', .int .i64 t'] ∧ JD w D [.int .i64 d, .int .i64 l, .int .i64 f, .int .i64 s, .int .i64 o, .int .i64 ln, .int .i64 tn, .int .i64 c, .int .i64 k, .int .i64 a, .int .i64 t, .int .i64 c', .int .i64 k', .int .i64 a', .int .i64 t'] 29 W) (hc : IsCur W w.heap.size (w.heap.size + 1) x n cap M) (hM : M ≤ 900) => (anyTincture_any w.heap.size (w.heap.size + 1) x n cap M W hc (by omega) hn).mono (fun e w' hh => (⟨⟨hh.1.choose, hh.1.choose_spec.1⟩, jd_kept hS hh.2.2 (by omega) (by omega), hh.2.1, hh.2.2⟩ : (∃ y : Int, e = Ending.returned (.int .i64 y)) ∧ (w'.rangeAt D 0 [.int .i64 d, .int .i64 l, .int .i64 f, .int .i64 s, .int .i64 o, .int .i64 ln, .int .i64 tn, .int .i64 c, .int .i64 k, .int .i64 a, .int .i64 t, .int .i64 c', .int .i64 k', .int .i64 a', .int .i64 t'] ∧ JD w D [.int .i64 d, .int .i64 l, .int .i64 f, .int .i64 s, .int .i64 o, .int .i64 ln, .int .i64 tn, .int .i64 c, .int .i64 k, .int .i64 a, .int .i64 t, .int .i64 c', .int .i64 k', .int .i64 a', .int .i64 t'] 29 w') ∧ IsCur w' w.heap.size (w.heap.size + 1) x n cap (M + 4) ∧ W.grownBy w' (some (w.heap.size + 1)))))
  have HONE := Lib.hid (show (List.toArray [Value.int .i64 d, Value.int .i64 l, Value.int .i64 f, Value.int .i64 s, Value.int .i64 o, Value.int .i64 ln, Value.int .i64 tn, Value.int .i64 c, Value.int .i64 k, Value.int .i64 a, Value.int .i64 t, Value.int .i64 c', Value.int .i64 k', Value.int .i64 a', Value.int .i64 t']).all (·.oneCell') = true by simp [Value.oneCell'])
  cases b
  · go_upto_region 5 with fail
    go_cut [3, 4] (fun s3 s4 wx => ∃ old y : Int, s3 = .int .i64 old ∧ s4 = .int .i64 y ∧ BoxF wx w.heap.size [.int .i64 d, .int .i64 l, .int .i64 f, .int .i64 s, .int .i64 o, .int .i64 ln, .int .i64 tn, .int .i64 c, .int .i64 k, .int .i64 a, .int .i64 t, .int .i64 c', .int .i64 k', .int .i64 a', .int .i64 t'] 29 ∧ Below w.heap.size w wx)
    case first =>
      have hj := jd_of (w := w) ⟨XA2.out, HB2.out⟩
      have hS0 := jd_drew hj
      have hC := HC2.out.drew
      have hR := XR2.out.drewR
      clear hj XA2 HB2 HC2 XR2
      refine wp_region_noPanic ?_
      refine wp_region_held_drew (S := fun w' => w'.rangeAt D 0 [.int .i64 d, .int .i64 l, .int .i64 f, .int .i64 s, .int .i64 o, .int .i64 ln, .int .i64 tn, .int .i64 c, .int .i64 k, .int .i64 a, .int .i64 t, .int .i64 c', .int .i64 k', .int .i64 a', .int .i64 t'] ∧ JD w D [.int .i64 d, .int .i64 l, .int .i64 f, .int .i64 s, .int .i64 o, .int .i64 ln, .int .i64 tn, .int .i64 c, .int .i64 k, .int .i64 a, .int .i64 t, .int .i64 c', .int .i64 k', .int .i64 a', .int .i64 t'] 29 w') (by kernel_rfl) hS0 (fun hHeld => ?_)
      clear hS0
      generalize w2.drew = Wd at *
      refine wpAnyH_take (i := 0) rfl (by kernel_rfl) (by kernel_rfl) (by kernel_rfl) (fun _ _ _ h => h) (yieldsIf_load_mid (by rfl) 29 _ rfl D 0 rfl [.int .i64 d, .int .i64 l, .int .i64 f, .int .i64 s, .int .i64 o, .int .i64 ln, .int .i64 tn, .int .i64 c, .int .i64 k, .int .i64 a, .int .i64 t, .int .i64 c', .int .i64 k', .int .i64 a', .int .i64 t'] _ (fun w h => h.1) Tryd.underlying29 rfl (by kernel_rfl)) hHeld ?_
      set_option linter.unusedSimpArgs false in try simp only [Act.put, List.setIfInBounds_toArray, List.set_cons_zero, List.set_cons_succ]
      refine wpAnyH_take (i := 1) (v := ?_) rfl (by kernel_rfl) (by kernel_rfl) (by kernel_rfl) (fun _ _ _ h => h) (Or.inl ⟨by rfl, ?_⟩) hHeld ?_
      rotate_left
      · (intro w hSw; clear hSw; go_simp; first | done | with_reducible rfl)
      set_option linter.unusedSimpArgs false in try simp only [Act.put, List.setIfInBounds_toArray, List.set_cons_zero, List.set_cons_succ]
      refine wpAnyH_take (i := 3) (v := ?_) rfl (by kernel_rfl) (by kernel_rfl) (by kernel_rfl) (fun _ _ _ h => h) (Or.inl ⟨by rfl, ?_⟩) hHeld ?_
      rotate_left
      · (intro w hSw; clear hSw; go_simp; first | done | with_reducible rfl)
      set_option linter.unusedSimpArgs false in try simp only [Act.put, List.setIfInBounds_toArray, List.set_cons_zero, List.set_cons_succ]
      refine wpAnyH_ready (rs := [2]) (by kernel_rfl) (by simp) ?_
      refine AllReadyH.cons rfl (fun K hK => ?_) ?_
      · go_simp
        refine (CT.out _ _ hHeld hC (by omega)).mono ?_
        rintro e V1 ⟨⟨y1, rfl⟩, hS, hC2, hG⟩
        have hR2 := BoxF.kept hR hG (by simp)
        clear hC hR hG
        have hC := hC2
        have hR := hR2
        clear hC2 hR2
        go_wp2_with fail
        refine hK.out _ _ hS (fun hHeld => ?_)
        clear hK K hS
        set_option linter.unusedSimpArgs false in try simp only [Act.put, List.setIfInBounds_toArray, List.set_cons_zero, List.set_cons_succ]
        refine wpAnyH_ready (rs := [4]) (by kernel_rfl) (by simp) ?_
        refine AllReadyH.cons rfl (fun K hK => ?_) ?_
        · go_simp
          refine (CT.out _ _ hHeld hC (by omega)).mono ?_
          rintro e V2 ⟨⟨y2, rfl⟩, hS, hC2, hG⟩
          have hR2 := BoxF.kept hR hG (by simp)
          clear hC hR hG
          have hC := hC2
          have hR := hR2
          clear hC2 hR2
          go_wp2_with fail
          refine hK.out _ _ hS (fun hHeld => ?_)
          clear hK K hS
          set_option linter.unusedSimpArgs false in try simp only [Act.put, List.setIfInBounds_toArray, List.set_cons_zero, List.set_cons_succ]
          refine wpAnyH_ready (rs := [5]) (by kernel_rfl) (by simp) ?_
          refine AllReadyH.cons rfl (fun K hK => ?_) ?_
          · try rw [if_pos (by rfl)]
            set_option maxRecDepth 100000 in refine wp_store_mid (op := { dst := none, op := .store 29 (.tmp 2) (.tmp 20), type := 0, pos := _, after := _, guard := none }) 29 _ _ rfl w.heap.size 0 (List.toArray [.int .i64 d, .int .i64 l, .int .i64 f, .int .i64 s, .int .i64 o, .int .i64 ln, .int .i64 tn, .int .i64 c, .int .i64 k, .int .i64 a, .int .i64 t, .int .i64 c', .int .i64 k', .int .i64 a', .int .i64 t']) rfl rfl (hR.ther (n := 15) rfl) size29 HONE.out ?_
            refine hK.out _ _ (jd_setc [.int .i64 d, .int .i64 l, .int .i64 f, .int .i64 s, .int .i64 o, .int .i64 ln, .int .i64 tn, .int .i64 c, .int .i64 k, .int .i64 a, .int .i64 t, .int .i64 c', .int .i64 k', .int .i64 a', .int .i64 t'] (by omega) (by omega) hHeld) (fun hHeld => ?_)
            clear hK K
            set_option linter.unusedSimpArgs false in try simp only [Act.put, List.setIfInBounds_toArray, List.set_cons_zero, List.set_cons_succ]
            have hC := hC.apart (setc_grown _ w.heap.size [.int .i64 d, .int .i64 l, .int .i64 f, .int .i64 s, .int .i64 o, .int .i64 ln, .int .i64 tn, .int .i64 c, .int .i64 k, .int .i64 a, .int .i64 t, .int .i64 c', .int .i64 k', .int .i64 a', .int .i64 t']) (Nat.le_refl _) (by omega)
            have hR : BoxF _ w.heap.size [.int .i64 d, .int .i64 l, .int .i64 f, .int .i64 s, .int .i64 o, .int .i64 ln, .int .i64 tn, .int .i64 c, .int .i64 k, .int .i64 a, .int .i64 t, .int .i64 c', .int .i64 k', .int .i64 a', .int .i64 t'] 29 := BoxF.setAll (vs := [.int .i64 d, .int .i64 l, .int .i64 f, .int .i64 s, .int .i64 o, .int .i64 ln, .int .i64 tn, .int .i64 c, .int .i64 k, .int .i64 a, .int .i64 t, .int .i64 c', .int .i64 k', .int .i64 a', .int .i64 t']) hR
            refine wpAnyH_take (i := 6) (oi := { dst := some 3, op := _, type := _, pos := _, after := _, guard := none }) (v := ?_) rfl (by kernel_rfl) (by kernel_rfl) (by kernel_rfl) (fun _ _ _ h => h) (Or.inl ⟨by rfl, ?_⟩) hHeld ?_
            rotate_left
            · (intro w hSw; clear hSw; go_simp; first | done | with_reducible rfl)
            set_option linter.unusedSimpArgs false in try simp only [Act.put, List.setIfInBounds_toArray, List.set_cons_zero, List.set_cons_succ]
            refine wpAnyH_take (i := 7) (oi := { dst := some 4, op := _, type := _, pos := _, after := _, guard := none }) (v := ?_) rfl (by kernel_rfl) (by kernel_rfl) (by kernel_rfl) (fun _ _ _ h => h) (Or.inl ⟨by rfl, ?_⟩) hHeld ?_
            rotate_left
            · (intro w hSw; clear hSw; go_simp; first | done | with_reducible rfl)
            set_option linter.unusedSimpArgs false in try simp only [Act.put, List.setIfInBounds_toArray, List.set_cons_zero, List.set_cons_succ]
            refine wpAnyH_done (by kernel_rfl) ?_ _
            refine NoPanic.normal ?_
            have hj := (jd_jd hHeld).2
            clear hHeld
            go_wp2_with fail
            go_meet
            exact ⟨_, _, rfl, rfl, hR, hj⟩
          exact AllReadyH.nil
        exact AllReadyH.nil
      exact AllReadyH.nil
    case rest =>
      obtain ⟨old, y, rfl, rfl, hR, hB⟩ := hcut
      obtain ⟨z0, z1, z2, z3, z4, z5, z6, z7, z8, z9, z10, z11, z12, z13, z14, zf⟩ := hR.fifteen
      go_wp2_with fail
      exact bodyPost_ret (v := .tuple #[.agg #[.int .i64 d, .int .i64 l, .int .i64 f, .int .i64 s, .int .i64 o, .int .i64 ln, .int .i64 tn, .int .i64 c, .int .i64 k, .int .i64 a, .int .i64 t, .int .i64 c', .int .i64 k', .int .i64 a', .int .i64 t'], .int .i64 old, .int .i64 y]) (by simp [results, Tryd.results6, go_sem, z0, z1, z2, z3, z4, z5, z6, z7, z8, z9, z10, z11, z12, z13, z14]) rfl ⟨⟨d, l, f, s, o, ln, tn, c, k, a, t, c', k', a', t', old, y, rfl⟩, hB⟩
  · go_upto_region 4 with fail
    go_cut [3, 4] (fun s3 s4 wx => ∃ old y : Int, s3 = .int .i64 old ∧ s4 = .int .i64 y ∧ BoxF wx w.heap.size [.int .i64 d, .int .i64 l, .int .i64 f, .int .i64 s, .int .i64 o, .int .i64 ln, .int .i64 tn, .int .i64 c, .int .i64 k, .int .i64 a, .int .i64 t, .int .i64 c', .int .i64 k', .int .i64 a', .int .i64 t'] 29 ∧ Below w.heap.size w wx)
    case first =>
      have hj := jd_of (w := w) ⟨XA2.out, HB2.out⟩
      have hS0 := jd_drew hj
      have hC := HC2.out.drew
      have hR := XR2.out.drewR
      clear hj XA2 HB2 HC2 XR2
      refine wp_region_noPanic ?_
      refine wp_region_held_drew (S := fun w' => w'.rangeAt D 0 [.int .i64 d, .int .i64 l, .int .i64 f, .int .i64 s, .int .i64 o, .int .i64 ln, .int .i64 tn, .int .i64 c, .int .i64 k, .int .i64 a, .int .i64 t, .int .i64 c', .int .i64 k', .int .i64 a', .int .i64 t'] ∧ JD w D [.int .i64 d, .int .i64 l, .int .i64 f, .int .i64 s, .int .i64 o, .int .i64 ln, .int .i64 tn, .int .i64 c, .int .i64 k, .int .i64 a, .int .i64 t, .int .i64 c', .int .i64 k', .int .i64 a', .int .i64 t'] 29 w') (by kernel_rfl) hS0 (fun hHeld => ?_)
      clear hS0
      generalize w2.drew = Wd at *
      refine wpAnyH_take (i := 0) rfl (by kernel_rfl) (by kernel_rfl) (by kernel_rfl) (fun _ _ _ h => h) (yieldsIf_load_mid (by rfl) 29 _ rfl D 0 rfl [.int .i64 d, .int .i64 l, .int .i64 f, .int .i64 s, .int .i64 o, .int .i64 ln, .int .i64 tn, .int .i64 c, .int .i64 k, .int .i64 a, .int .i64 t, .int .i64 c', .int .i64 k', .int .i64 a', .int .i64 t'] _ (fun w h => h.1) Tryd.underlying29 rfl (by kernel_rfl)) hHeld ?_
      set_option linter.unusedSimpArgs false in try simp only [Act.put, List.setIfInBounds_toArray, List.set_cons_zero, List.set_cons_succ]
      refine wpAnyH_take (i := 1) (v := ?_) rfl (by kernel_rfl) (by kernel_rfl) (by kernel_rfl) (fun _ _ _ h => h) (Or.inl ⟨by rfl, ?_⟩) hHeld ?_
      rotate_left
      · (intro w hSw; clear hSw; go_simp; first | done | with_reducible rfl)
      set_option linter.unusedSimpArgs false in try simp only [Act.put, List.setIfInBounds_toArray, List.set_cons_zero, List.set_cons_succ]
      refine wpAnyH_take (i := 2) (v := ?_) rfl (by kernel_rfl) (by kernel_rfl) (by kernel_rfl) (fun _ _ _ h => h) (Or.inl ⟨by rfl, ?_⟩) hHeld ?_
      rotate_left
      · (intro w hSw; clear hSw; go_simp; first | done | with_reducible rfl)
      set_option linter.unusedSimpArgs false in try simp only [Act.put, List.setIfInBounds_toArray, List.set_cons_zero, List.set_cons_succ]
      refine wpAnyH_take (i := 3) (v := ?_) rfl (by kernel_rfl) (by kernel_rfl) (by kernel_rfl) (fun _ _ _ h => h) (Or.inl ⟨by rfl, ?_⟩) hHeld ?_
      rotate_left
      · (intro w hSw; have c_ := hSw.1 2 _ rfl; simp only [Nat.zero_add] at c_; clear hSw; go_simp; first | done | with_reducible rfl)
      set_option linter.unusedSimpArgs false in try simp only [Act.put, List.setIfInBounds_toArray, List.set_cons_zero, List.set_cons_succ]
      refine wpAnyH_take (i := 4) (v := ?_) rfl (by kernel_rfl) (by kernel_rfl) (by kernel_rfl) (fun _ _ _ h => h) (Or.inl ⟨by rfl, ?_⟩) hHeld ?_
      rotate_left
      · (intro w hSw; clear hSw; go_simp; first | done | with_reducible rfl)
      set_option linter.unusedSimpArgs false in try simp only [Act.put, List.setIfInBounds_toArray, List.set_cons_zero, List.set_cons_succ]
      refine wpAnyH_ready (rs := [5]) (by kernel_rfl) (by simp) ?_
      refine AllReadyH.cons rfl (fun K hK => ?_) ?_
      · go_simp
        refine (CT.out _ _ hHeld hC (by omega)).mono ?_
        rintro e V1 ⟨⟨y1, rfl⟩, hS, hC2, hG⟩
        have hR2 := BoxF.kept hR hG (by simp)
        clear hC hR hG
        have hC := hC2
        have hR := hR2
        clear hC2 hR2
        go_wp2_with fail
        refine hK.out _ _ hS (fun hHeld => ?_)
        clear hK K hS
        set_option linter.unusedSimpArgs false in try simp only [Act.put, List.setIfInBounds_toArray, List.set_cons_zero, List.set_cons_succ]
        refine wpAnyH_ready (rs := [6]) (by kernel_rfl) (by simp) ?_
        refine AllReadyH.cons rfl (fun K hK => ?_) ?_
        · try rw [if_pos (by rfl)]
          set_option maxRecDepth 100000 in refine wp_store_mid (op := { dst := none, op := .store 29 (.tmp 2) (.tmp 14), type := 0, pos := _, after := _, guard := none }) 29 _ _ rfl w.heap.size 0 (List.toArray [.int .i64 d, .int .i64 l, .int .i64 f, .int .i64 s, .int .i64 o, .int .i64 ln, .int .i64 tn, .int .i64 c, .int .i64 k, .int .i64 a, .int .i64 t, .int .i64 c', .int .i64 k', .int .i64 a', .int .i64 t']) rfl rfl (hR.ther (n := 15) rfl) size29 HONE.out ?_
          refine hK.out _ _ (jd_setc [.int .i64 d, .int .i64 l, .int .i64 f, .int .i64 s, .int .i64 o, .int .i64 ln, .int .i64 tn, .int .i64 c, .int .i64 k, .int .i64 a, .int .i64 t, .int .i64 c', .int .i64 k', .int .i64 a', .int .i64 t'] (by omega) (by omega) hHeld) (fun hHeld => ?_)
          clear hK K
          set_option linter.unusedSimpArgs false in try simp only [Act.put, List.setIfInBounds_toArray, List.set_cons_zero, List.set_cons_succ]
          have hC := hC.apart (setc_grown _ w.heap.size [.int .i64 d, .int .i64 l, .int .i64 f, .int .i64 s, .int .i64 o, .int .i64 ln, .int .i64 tn, .int .i64 c, .int .i64 k, .int .i64 a, .int .i64 t, .int .i64 c', .int .i64 k', .int .i64 a', .int .i64 t']) (Nat.le_refl _) (by omega)
          have hR : BoxF _ w.heap.size [.int .i64 d, .int .i64 l, .int .i64 f, .int .i64 s, .int .i64 o, .int .i64 ln, .int .i64 tn, .int .i64 c, .int .i64 k, .int .i64 a, .int .i64 t, .int .i64 c', .int .i64 k', .int .i64 a', .int .i64 t'] 29 := BoxF.setAll (vs := [.int .i64 d, .int .i64 l, .int .i64 f, .int .i64 s, .int .i64 o, .int .i64 ln, .int .i64 tn, .int .i64 c, .int .i64 k, .int .i64 a, .int .i64 t, .int .i64 c', .int .i64 k', .int .i64 a', .int .i64 t']) hR
          refine wpAnyH_take (i := 7) (oi := { dst := some 3, op := _, type := _, pos := _, after := _, guard := none }) (v := ?_) rfl (by kernel_rfl) (by kernel_rfl) (by kernel_rfl) (fun _ _ _ h => h) (Or.inl ⟨by rfl, ?_⟩) hHeld ?_
          rotate_left
          · (intro w hSw; clear hSw; go_simp; first | done | with_reducible rfl)
          set_option linter.unusedSimpArgs false in try simp only [Act.put, List.setIfInBounds_toArray, List.set_cons_zero, List.set_cons_succ]
          refine wpAnyH_take (i := 8) (oi := { dst := some 4, op := _, type := _, pos := _, after := _, guard := none }) (v := ?_) rfl (by kernel_rfl) (by kernel_rfl) (by kernel_rfl) (fun _ _ _ h => h) (Or.inl ⟨by rfl, ?_⟩) hHeld ?_
          rotate_left
          · (intro w hSw; clear hSw; go_simp; first | done | with_reducible rfl)
          set_option linter.unusedSimpArgs false in try simp only [Act.put, List.setIfInBounds_toArray, List.set_cons_zero, List.set_cons_succ]
          refine wpAnyH_done (by kernel_rfl) ?_ _
          refine NoPanic.normal ?_
          have hj := (jd_jd hHeld).2
          clear hHeld
          go_wp2_with fail
          go_meet
          exact ⟨_, _, rfl, rfl, hR, hj⟩
        exact AllReadyH.nil
      exact AllReadyH.nil
    case rest =>
      obtain ⟨old, y, rfl, rfl, hR, hB⟩ := hcut
      obtain ⟨z0, z1, z2, z3, z4, z5, z6, z7, z8, z9, z10, z11, z12, z13, z14, zf⟩ := hR.fifteen
      go_wp2_with fail
      exact bodyPost_ret (v := .tuple #[.agg #[.int .i64 d, .int .i64 l, .int .i64 f, .int .i64 s, .int .i64 o, .int .i64 ln, .int .i64 tn, .int .i64 c, .int .i64 k, .int .i64 a, .int .i64 t, .int .i64 c', .int .i64 k', .int .i64 a', .int .i64 t'], .int .i64 old, .int .i64 y]) (by simp [results, Tryd.results6, go_sem, z0, z1, z2, z3, z4, z5, z6, z7, z8, z9, z10, z11, z12, z13, z14]) rfl ⟨⟨d, l, f, s, o, ln, tn, c, k, a, t, c', k', a', t', old, y, rfl⟩, hB⟩
end Go.Proofs.YtpcghkciibbmgaaDoor
