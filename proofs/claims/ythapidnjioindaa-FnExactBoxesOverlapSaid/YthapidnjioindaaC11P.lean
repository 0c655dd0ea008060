/- Contracts: BoxesOverlap of both sides. -/
import Derived.Test.YthapidnjioindaaC11O
import Derived.Deep.DeepCutAuto
import Derived.Deep.RegionHeld3
namespace Go.Proofs.Ythapidnjioindaa
open Go.RowKit

/-- The boxes have a cell in common. -/
def ovB (a b : Bx) : Bool := decide (a.x < b.x + b.n) && (decide (b.x < a.x + a.n) && (decide (a.y < b.y + b.n) && decide (b.y < a.y + a.n)))
theorem ovB_symm {a b : Bx} (h : ovB a b = false) : ovB b a = false := by
  cases hq : ovB b a
  · rfl
  · unfold ovB at h hq
    simp only [Bool.and_eq_true, decide_eq_true_eq] at hq
    rw [decide_eq_true hq.2.1, decide_eq_true hq.1, decide_eq_true hq.2.2.2, decide_eq_true hq.2.2.1] at h
    cases h
noncomputable def overX (X : List Bx) : Bool := @decide (¬ X.Pairwise (fun a b => ovB a b = false)) (Classical.propDecidable _)
theorem overX_yes {X : List Bx} {i j : Nat} {a b : Bx} (hij : i < j) (ha : X[i]? = some a) (hb : X[j]? = some b) (h : ovB a b = true) : overX X = true := by
  unfold overX
  refine @decide_eq_true _ (Classical.propDecidable _) (fun hp => ?_)
  rw [List.pairwise_iff_getElem] at hp
  obtain ⟨hi, ea⟩ := List.getElem?_eq_some_iff.1 ha
  obtain ⟨hj, eb⟩ := List.getElem?_eq_some_iff.1 hb
  have := hp i j hi hj hij
  rw [ea, eb, h] at this; cases this
theorem overX_no {X : List Bx} (h : ∀ (i j : Nat) (a b : Bx), i < j → X[i]? = some a → X[j]? = some b → ovB a b = false) : overX X = false := by
  unfold overX
  refine @decide_eq_false _ (Classical.propDecidable _) (fun hp => hp ?_)
  rw [List.pairwise_iff_getElem]
  intro i j hi hj hij
  exact h i j _ _ hij (List.getElem?_eq_getElem hi) (List.getElem?_eq_getElem hj)
theorem overX_perm {X Y : List Bx} (h : Y.Perm X) : overX Y = overX X := by
  unfold overX
  have := h.pairwise_iff (R := fun a b => ovB a b = false) (fun h => ovB_symm h)
  rw [this]
def validX (X : List Bx) : Bool := X.all fun F => boxB F.x F.y F.n
def okX (X : List Bx) : Bool := decide (X.length ≤ 40) && validX X
theorem validX_no {X : List Bx} {k : Nat} {F : Bx} (hF : X[k]? = some F) (h : boxB F.x F.y F.n = false) : validX X = false := by
  cases hv : validX X
  · rfl
  · unfold validX at hv
    rw [List.all_eq_true] at hv
    have := hv F (List.mem_of_getElem? hF)
    rw [h] at this; cases this
theorem validX_yes {X : List Bx} (h : ∀ (k : Nat) (F : Bx), X[k]? = some F → boxB F.x F.y F.n = true) : validX X = true := by
  unfold validX
  rw [List.all_eq_true]
  intro F hF
  obtain ⟨k, hk⟩ := List.mem_iff_getElem?.1 hF
  exact h k F hk
theorem validX_at {X : List Bx} (h : validX X = true) {F : Bx} (hF : F ∈ X) : boxB F.x F.y F.n = true := by
  unfold validX at h
  rw [List.all_eq_true] at h
  exact h F hF
theorem mask_and {x1 n1 x2 n2 : Nat} (h1 : 1 ≤ n1) (h2 : 1 ≤ n2) : (maskN n1 x1 &&& maskN n2 x2 ≠ 0) ↔ (x1 < x2 + n2 ∧ x2 < x1 + n1) := by
  constructor
  · intro h
    obtain ⟨k, hk⟩ := Nat.exists_testBit_of_ne_zero h
    rw [Nat.testBit_and, maskN_bit, maskN_bit] at hk
    simp at hk
    omega
  · intro h e
    have : (maskN n1 x1 &&& maskN n2 x2).testBit (max x1 x2) = true := by
      rw [Nat.testBit_and, maskN_bit, maskN_bit]
      simp
      omega
    rw [e] at this; simp at this
set_option maxRecDepth 100000 in
set_option maxHeartbeats 8000000 in
theorem overlap_impl (X : List Bx) (b o n c : Nat) (w : World) (h : RdBx w (some ⟨b, o, none⟩) n X) (hn : n ≤ 1048577) :
    Calls Try.prog 17 #[.slice (some ⟨b, o, none⟩) n c] w fun e w' => e = .returned (.tuple #[.bool (okX X && overX X), .bool (okX X)]) ∧ Below w.heap.size w w' := by
  have HR := Lib.hid h
  have hXn := h.1
  clear h
  by_cases h40 : 40 < n
  · have hok : okX X = false := by unfold okX; rw [decide_eq_false (by omega)]; rfl
    have e40 : decide ((40 : Int) < (n : Int)) = true := decide_eq_true (by omega)
    rw [hok]
    go_enter Try.func17, Try.ntmps17
    go_wp2_with fail
    go_ret2
    exact ⟨rfl, Below.refl _ _⟩
  have e40 : decide ((40 : Int) < (n : Int)) = false := decide_eq_false (by omega)
  have HX := Lib.hid hXn
  clear hXn
  go_enter Try.func17, Try.ntmps17
  go_wp2_with fail
  go_loopw [16] (fun i wr => ∃ k : Nat, k ≤ n ∧ i = .int .i64 (k : Int) ∧ Hid (Below w.heap.size w wr) ∧ Hid (∀ j F, j < k → X[j]? = some F → boxB F.x F.y F.n = true)) (fun i _ => n - (intOf i).toNat)
  case atStart => exact ⟨0, by omega, rfl, Lib.hid (Below.refl _ _), Lib.hid (fun j F h => by omega)⟩
  case round =>
    obtain ⟨k, hk, rfl, HB, HV⟩ := hrel
    by_cases hlt : k < n
    · have elt : decide ((k : Int) < (n : Int)) = true := decide_eq_true (by omega)
      obtain ⟨F, hF⟩ := atB_of_lt HX.out hlt
      obtain ⟨b_, o_, e_, _, hc⟩ := (HR.out.below HB.out).2 (by omega)
      cases e_
      obtain ⟨x0, x1, x2⟩ := hc k F hF
      have XB := BoxF.new wr [.int .i64 F.x, .int .i64 F.y, .int .i64 F.n] 25
      have HB1 := Lib.hid (HB.out.alloc HB.out.size (.cells #[.int .i64 F.x, .int .i64 F.y, .int .i64 F.n] 25 (0, 0)))
      have CV := fun W => validBox_impl F.x F.y F.n W
      obtain ⟨v, hv⟩ : ∃ v, boxB F.x F.y F.n = v := ⟨_, rfl⟩
      rw [hv] at CV
      have CV := Lib.hid CV
      have HF := Lib.hid hF
      have HVV := Lib.hid hv
      clear hc hF hv XB
      cases v
      · have hok : okX X = false := by unfold okX; rw [validX_no HF.out HVV.out]; simp
        have HOK := Lib.hid hok
        clear hok
        go_wp2_with fail
        refine (CV.out _).mono ?_
        rintro e w2 ⟨rfl, hb2⟩
        have HB2 := Lib.hid (HB1.out.trans (hb2.mono HB1.out.size))
        clear hb2 x0 x1 x2
        go_wp2_with fail
        go_ret2
        exact ⟨by rw [HOK.out] <;> rfl, HB2.out⟩
      · go_wp2_with fail
        refine (CV.out _).mono ?_
        rintro e w2 ⟨rfl, hb2⟩
        have HB2 := Lib.hid (HB1.out.trans (hb2.mono HB1.out.size))
        clear hb2 x0 x1 x2
        go_wp2_with fail
        go_roundw
        case rel =>
          refine ⟨k + 1, by omega, by go_num, HB2, Lib.hid (fun j F' hj hF' => ?_)⟩
          by_cases e : j = k
          · subst e
            have := HF.out
            rw [hF'] at this
            cases this
            exact HVV.out
          · exact HV.out j F' (by omega) hF'
        case measure => simp [intOf]; omega
    · have elt : decide ((k : Int) < (n : Int)) = false := decide_eq_false (by omega)
      obtain rfl : k = n := by omega
      have hval : validX X = true := validX_yes (fun j F hF => HV.out j F (by have h1 := (List.getElem?_eq_some_iff.1 hF).1; have := HX.out; omega) hF)
      have hok : okX X = true := by unfold okX; rw [hval, decide_eq_true (by have := HX.out; omega)]; rfl
      have HVAL := Lib.hid hval
      have HOK := Lib.hid hok
      clear hval hok HV
      go_wp2_with fail
      refine (cloneBx X b o k c _ (HR.out.below HB.out) (by omega)).mono ?_
      rintro e w2 ⟨g, cap, rfl, ho2, hb2⟩
      have hHX := HX.out
      subst hHX
      have HB2 := Lib.hid (HB.out.trans (hb2.mono HB.out.size))
      have HO2 := Lib.hid (ho2.low HB.out.size)
      clear hb2 ho2 HB
      go_wp2_with fail
      refine (sortBx_any X g cap w.heap.size _ HO2.out (by omega)).mono ?_
      rintro e w3 ⟨rfl, Y, hperm, hsort, hrd, hb3⟩
      have hlenY := hperm.length_eq
      have HB3 := Lib.hid (HB2.out.trans hb3)
      have HP := Lib.hid hperm
      have HS := Lib.hid hsort
      have HRY := Lib.hid hrd
      have hcap : X.length ≤ cap := by
        rcases HO2.out.2 with ⟨h1, _⟩ | ⟨g', cap', cur, h1, _, _, hle, _⟩
        · simp only [Value.slice.injEq] at h1; omega
        · simp only [Value.slice.injEq] at h1; omega
      clear hperm hsort hrd hb3 HB2 HO2
      go_wp2_with fail
      go_loopw [30] (fun i wr => ∃ i' : Nat, i' ≤ X.length ∧ i = .int .i64 (i' : Int) ∧ Hid (Below w3.heap.size w3 wr) ∧ Hid (∀ (p q : Nat) (a b : Bx), p < i' → p < q → Y[p]? = some a → Y[q]? = some b → ovB a b = false)) (fun i _ => X.length - (intOf i).toNat)
      case atStart => exact ⟨0, by omega, rfl, Lib.hid (Below.refl _ _), Lib.hid (fun p q a b h => by omega)⟩
      case round =>
        obtain ⟨i, hi, rfl, HB, HU⟩ := hrel
        by_cases hlt : i < X.length
        · have elt : decide ((i : Int) < (X.length : Int)) = true := decide_eq_true (by omega)
          obtain ⟨F, hF⟩ := atB_of_lt HRY.out.1 hlt
          obtain ⟨g_, o_, e_, _, hc⟩ := (HRY.out.below HB.out).2 (by omega)
          cases e_
          obtain ⟨x0, x1_, x2_⟩ := hc i F hF
          rw [Nat.zero_add] at x0 x1_ x2_
          have hvF := validX_at HVAL.out (HP.out.mem_iff.1 (List.mem_of_getElem? hF))
          obtain ⟨x1, y1, n1, ex, ey, en, q1, q2, q3, q4, _⟩ := boxB_yes hvF
          have HFE := Lib.hid (show F = Bx.mk (x1 : Int) (y1 : Int) (n1 : Int) by cases F; simp_all)
          rw [ex] at x0
          rw [ey] at x1_
          rw [en] at x2_
          rw [HFE.out] at hF
          have HF := Lib.hid hF
          have XU := Lib.hid (BoxF.new wr [.int .i64 (x1 : Int), .int .i64 (y1 : Int), .int .i64 (n1 : Int)] 25)
          have HB1 := Lib.hid (HB.out.alloc HB.out.size (.cells #[.int .i64 (x1 : Int), .int .i64 (y1 : Int), .int .i64 (n1 : Int)] 25 (0, 0)))
          have M1 := Lib.hid (fun W => rowMask_any x1 n1 (y1 : Int) W q1 q2 q3)
          obtain ⟨qa, hqa⟩ : ∃ q, wr.heap.size = q := ⟨_, rfl⟩
          rw [hqa] at XU
          clear hF hc hvF ex ey en HB
          by_cases hlast : i + 1 < X.length
          · have ecap : cap ≠ i + 1 := by omega
            go_wp2_with fail
            go_loopw [40] (fun jv wr => ∃ j : Nat, i + 1 + j ≤ X.length ∧ jv = .int .i64 (j : Int) ∧ Hid (BoxF wr qa [.int .i64 (x1 : Int), .int .i64 (y1 : Int), .int .i64 (n1 : Int)] 25) ∧ Hid (Below w3.heap.size w3 wr) ∧ Hid (∀ (q : Nat) (b : Bx), q < i + 1 + j → i < q → Y[q]? = some b → ovB (Bx.mk (x1 : Int) (y1 : Int) (n1 : Int)) b = false)) (fun jv _ => X.length - (intOf jv).toNat)
            case atStart => exact ⟨0, by omega, rfl, XU, HB1, Lib.hid (fun q b h1 h2 => by omega)⟩
            case round =>
              clear XU HB1
              obtain ⟨j, hj, rfl, XA, HB, HI⟩ := hrel
              by_cases hlj : i + 1 + j < X.length
              · have elj : decide ((j : Int) < (X.length : Int) - ((i : Int) + 1)) = true := decide_eq_true (by omega)
                have elj2 : decide ((j : Int) < ((X.length - (i + 1) : Nat) : Int)) = true := decide_eq_true (by omega)
                have hjm : j < X.length - (i + 1) := by omega
                obtain ⟨F2, hF2⟩ := atB_of_lt HRY.out.1 hlj
                obtain ⟨g_, o_, e_, _, hc⟩ := (HRY.out.below HB.out).2 (by omega)
                cases e_
                obtain ⟨z0, z1, z2⟩ := hc (i + 1 + j) F2 hF2
                rw [show 0 + (i + 1 + j) * 3 = (i + 1) * 3 + j * 3 by omega] at z0 z1 z2
                have hvF := validX_at HVAL.out (HP.out.mem_iff.1 (List.mem_of_getElem? hF2))
                obtain ⟨x2, y2, n2, ex, ey, en, p1, p2, p3, p4, _⟩ := boxB_yes hvF
                have hFE2 : F2 = Bx.mk (x2 : Int) (y2 : Int) (n2 : Int) := by cases F2; simp_all
                rw [ex] at z0
                rw [ey] at z1
                rw [en] at z2
                rw [hFE2] at hF2
                have HF2 := Lib.hid hF2
                have hle := HS.out i (i + 1 + j) _ _ (by omega) HF.out hF2
                have XB := Lib.hid (BoxF.new wr [.int .i64 (x2 : Int), .int .i64 (y2 : Int), .int .i64 (n2 : Int)] 25)
                have XA1 := Lib.hid (XA.out.alloc (.cells #[.int .i64 (x2 : Int), .int .i64 (y2 : Int), .int .i64 (n2 : Int)] 25 (0, 0)))
                have HB1 := Lib.hid (HB.out.alloc HB.out.size (.cells #[.int .i64 (x2 : Int), .int .i64 (y2 : Int), .int .i64 (n2 : Int)] 25 (0, 0)))
                have M2 := Lib.hid (fun W => rowMask_any x2 n2 (y2 : Int) W p1 p2 p3)
                have d1 := XA1.out.at 1
                have d2 := XA1.out.at 2
                simp only [List.getElem?_cons_zero, List.getElem?_cons_succ] at d1 d2
                have hqa2 := XA.out.lt
                obtain ⟨qb, hqb⟩ : ∃ q, wr.heap.size = q := ⟨_, rfl⟩
                have f1 := XB.out.at 1
                simp only [List.getElem?_cons_zero, List.getElem?_cons_succ] at f1
                rw [hqb] at XB hqa2 f1
                simp only at hle
                clear hF2 hc hvF ex ey en hFE2 XA HB
                by_cases hbr : y1 + n1 ≤ y2
                · have ebr : decide ((y1 : Int) + (n1 : Int) ≤ (y2 : Int)) = true := decide_eq_true (by omega)
                  have HU2 := Lib.hid (show ∀ (p q : Nat) (a b : Bx), p < i + 1 → p < q → Y[p]? = some a → Y[q]? = some b → ovB a b = false from fun p q a b h1 h2 h3 h4 => by
                    by_cases hp : p < i
                    · exact HU.out p q a b hp h2 h3 h4
                    · obtain rfl : p = i := by omega
                      have := HF.out
                      rw [h3] at this
                      cases this
                      by_cases hq : q < p + 1 + j
                      · exact HI.out q b hq h2 h4
                      · have hby : (y2 : Int) ≤ b.y := by
                          by_cases hq2 : q = p + 1 + j
                          · have := HF2.out
                            rw [← hq2, h4] at this
                            cases this
                            exact Int.le_refl _
                          · exact HS.out (p + 1 + j) q _ b (by omega) HF2.out h4
                        unfold ovB
                        rw [decide_eq_false (p := b.y < (y1 : Int) + (n1 : Int)) (by omega)]
                        simp)
                  clear HU HI XB XA1
                  go_wp2_with fail
                  go_roundw
                  case rel => exact ⟨i + 1, by omega, by go_num, HB1, HU2⟩
                  case measure => simp [intOf]; omega
                · have ebr : decide ((y1 : Int) + (n1 : Int) ≤ (y2 : Int)) = false := decide_eq_false (by omega)
                  obtain ⟨wb, hwb⟩ : ∃ W, wr.alloc (.cells #[.int .i64 (x2 : Int), .int .i64 (y2 : Int), .int .i64 (n2 : Int)] 25 (0, 0)) = W := ⟨_, rfl⟩
                  have XA2 : BoxF wb qa [.int .i64 (x1 : Int), .int .i64 (y1 : Int), .int .i64 (n1 : Int)] 25 := by rw [← hwb]; exact XA1.out
                  have XB2 : BoxF wb qb [.int .i64 (x2 : Int), .int .i64 (y2 : Int), .int .i64 (n2 : Int)] 25 := by rw [← hwb]; exact XB.out
                  have HB2 : Below w3.heap.size w3 wb := by rw [← hwb]; exact HB1.out
                  have XA := Lib.hid XA2
                  have XB := Lib.hid XB2
                  have HB := Lib.hid HB2
                  clear XA1 HB1 XA2 XB2 HB2 d1 d2 f1
                  have d1 := XA.out.at 1
                  have d2 := XA.out.at 2
                  have f1 := XB.out.at 1
                  simp only [List.getElem?_cons_zero, List.getElem?_cons_succ] at d1 d2 f1
                  have hma := mask_and (x1 := x1) (x2 := x2) q1 p1
                  obtain ⟨z, hz⟩ : ∃ z, decide (x1 < x2 + n2 ∧ x2 < x1 + n1) = z := ⟨_, rfl⟩
                  have hl1 := maskN_lt q2 (show x1 ≤ 20 by omega)
                  have hl2 := maskN_lt p2 (show x2 ≤ 20 by omega)
                  have hbits := i64_and_nat (maskN n1 x1) (maskN n2 x2) hl1 hl2
                  have hne : (((maskN n1 x1 &&& maskN n2 x2 : Nat) : Int) != 0) = z := by
                    rw [← hz]
                    by_cases hq : x1 < x2 + n2 ∧ x2 < x1 + n1
                    · rw [decide_eq_true hq]
                      have := hma.2 hq
                      simp; exact this
                    · rw [decide_eq_false hq]
                      have : maskN n1 x1 &&& maskN n2 x2 = 0 := Classical.byContradiction (fun h => hq (hma.1 h))
                      rw [this]; rfl
                  rw [← hbits] at hne
                  have HZ := Lib.hid hz
                  clear hma hz hl1 hl2 hbits
                  generalize maskN n1 x1 = m1 at *
                  generalize maskN n2 x2 = m2 at *
                  go_upto_region 18 with fail
                  clear d1 d2 f1
                  refine wp_region_noPanic ?_
                  refine wp_region_held_drew (S := fun W => BoxF W qa [.int .i64 (x1 : Int), .int .i64 (y1 : Int), .int .i64 (n1 : Int)] 25 ∧ BoxF W qb [.int .i64 (x2 : Int), .int .i64 (y2 : Int), .int .i64 (n2 : Int)] 25 ∧ Below wb.heap.size wb W) (by kernel_rfl) ⟨XA.out, XB.out, below_drewN' (Below.refl _ _) 1⟩ (fun hHeld => ?_)
                  generalize wb.drew = Wd at *
                  clear XA XB
                  refine wpAnyH_take (i := 0) (oi := { dst := some 52, op := _, type := _, pos := _, after := _, guard := _ }) (v := .agg #[.int .i64 (x1 : Int), .int .i64 (y1 : Int), .int .i64 (n1 : Int)]) rfl (by kernel_rfl) (by kernel_rfl) (by kernel_rfl) (fun _ _ _ h => h) (Or.inl ⟨by rfl, ?_⟩) hHeld ?_
                  · (intro w_ hSw; have c0_ := hSw.1.at 0; have c1_ := hSw.1.at 1; have c2_ := hSw.1.at 2; set_option linter.unusedSimpArgs false in simp only [List.getElem?_cons_zero, List.getElem?_cons_succ] at c0_ c1_ c2_; clear hSw; go_simp; first | done | with_reducible rfl | rfl | (intro h_; omega) | (simp only [IntKind.wrap, IntKind.bits, IntKind.signed]; omega) | (simp [IntKind.wrap, IntKind.bits, IntKind.signed]; omega))
                  set_option linter.unusedSimpArgs false in try simp only [Act.put, List.setIfInBounds_toArray, List.set_cons_zero, List.set_cons_succ]
                  refine wpAnyH_take (i := 2) (oi := { dst := some 54, op := _, type := _, pos := _, after := _, guard := _ }) (v := .agg #[.int .i64 (x2 : Int), .int .i64 (y2 : Int), .int .i64 (n2 : Int)]) rfl (by kernel_rfl) (by kernel_rfl) (by kernel_rfl) (fun _ _ _ h => h) (Or.inl ⟨by rfl, ?_⟩) hHeld ?_
                  · (intro w_ hSw; have c0_ := hSw.2.1.at 0; have c1_ := hSw.2.1.at 1; have c2_ := hSw.2.1.at 2; set_option linter.unusedSimpArgs false in simp only [List.getElem?_cons_zero, List.getElem?_cons_succ] at c0_ c1_ c2_; clear hSw; go_simp; first | done | with_reducible rfl | rfl | (intro h_; omega) | (simp only [IntKind.wrap, IntKind.bits, IntKind.signed]; omega) | (simp [IntKind.wrap, IntKind.bits, IntKind.signed]; omega))
                  set_option linter.unusedSimpArgs false in try simp only [Act.put, List.setIfInBounds_toArray, List.set_cons_zero, List.set_cons_succ]
                  refine wpAnyH_ready (rs := [1]) (by kernel_rfl) (by simp) ?_
                  refine AllReadyH.cons rfl (fun K hK => ?_) ?_
                  rotate_left
                  · exact AllReadyH.nil
                  try rw [if_pos (by rfl)]
                  go_simp
                  refine (M1.out _).mono ?_
                  rintro e w5 ⟨rfl, hb5⟩
                  have g0 : BoxF w5 qa [.int .i64 (x1 : Int), .int .i64 (y1 : Int), .int .i64 (n1 : Int)] 25 ∧ BoxF w5 qb [.int .i64 (x2 : Int), .int .i64 (y2 : Int), .int .i64 (n2 : Int)] 25 ∧ Below wb.heap.size wb w5 := ⟨hHeld.1.below hb5, hHeld.2.1.below hb5, hHeld.2.2.trans (hb5.mono hHeld.2.2.size)⟩
                  clear hb5
                  go_wp2_with fail
                  refine hK.out _ _ (g0) (fun hHeld => ?_)
                  clear hK K
                  set_option linter.unusedSimpArgs false in try simp only [Act.put, List.setIfInBounds_toArray, List.set_cons_zero, List.set_cons_succ]

                  refine wpAnyH_ready (rs := [3]) (by kernel_rfl) (by simp) ?_
                  refine AllReadyH.cons rfl (fun K hK => ?_) ?_
                  rotate_left
                  · exact AllReadyH.nil
                  try rw [if_pos (by rfl)]
                  go_simp
                  refine (M2.out _).mono ?_
                  rintro e w6 ⟨rfl, hb6⟩
                  have g1 : BoxF w6 qa [.int .i64 (x1 : Int), .int .i64 (y1 : Int), .int .i64 (n1 : Int)] 25 ∧ BoxF w6 qb [.int .i64 (x2 : Int), .int .i64 (y2 : Int), .int .i64 (n2 : Int)] 25 ∧ Below wb.heap.size wb w6 := ⟨g0.1.below hb6, g0.2.1.below hb6, g0.2.2.trans (hb6.mono g0.2.2.size)⟩
                  clear hb6 g0
                  go_wp2_with fail
                  refine hK.out _ _ (g1) (fun hHeld => ?_)
                  clear hK K
                  set_option linter.unusedSimpArgs false in try simp only [Act.put, List.setIfInBounds_toArray, List.set_cons_zero, List.set_cons_succ]

                  refine wpAnyH_take (i := 4) (oi := { dst := some 56, op := _, type := _, pos := _, after := _, guard := _ }) (v := .int .i64 (bits .and .i64 ((m1 : Nat) : Int) ((m2 : Nat) : Int))) rfl (by kernel_rfl) (by kernel_rfl) (by kernel_rfl) (fun _ _ _ h => h) (Or.inl ⟨by rfl, ?_⟩) hHeld ?_
                  · (intro w_ hSw; clear hSw; go_simp; first | done | with_reducible rfl | rfl | (intro h_; omega) | (simp only [IntKind.wrap, IntKind.bits, IntKind.signed]; omega) | (simp [IntKind.wrap, IntKind.bits, IntKind.signed]; omega))
                  set_option linter.unusedSimpArgs false in try simp only [Act.put, List.setIfInBounds_toArray, List.set_cons_zero, List.set_cons_succ]
                  refine wpAnyH_take (i := 5) (oi := { dst := some 57, op := _, type := _, pos := _, after := _, guard := _ }) (v := .bool z) rfl (by kernel_rfl) (by kernel_rfl) (by kernel_rfl) (fun _ _ _ h => h) (Or.inl ⟨by rfl, ?_⟩) hHeld ?_
                  · (intro w_ hSw; clear hSw; go_simp; first | done | with_reducible rfl | rfl | (intro h_; omega) | (simp only [IntKind.wrap, IntKind.bits, IntKind.signed]; omega) | (simp [IntKind.wrap, IntKind.bits, IntKind.signed]; omega))
                  set_option linter.unusedSimpArgs false in try simp only [Act.put, List.setIfInBounds_toArray, List.set_cons_zero, List.set_cons_succ]
                  refine wpAnyH_done (by kernel_rfl) ?_ _
                  refine NoPanic.normal ?_
                  have hb7 := hHeld.2.2
                  have xa7 := hHeld.1
                  clear hHeld g1
                  have HB9 := Lib.hid (HB.out.trans (hb7.mono HB.out.size))
                  clear hb7 HB
                  cases z
                  · have hno : ¬ (x1 < x2 + n2 ∧ x2 < x1 + n1) := of_decide_eq_false HZ.out
                    have XA9 := Lib.hid xa7
                    go_wp2_with fail
                    go_roundw
                    case rel =>
                      refine ⟨j + 1, by omega, by go_num, XA9, HB9, Lib.hid (fun q b hq h1 h2 => ?_)⟩
                      by_cases e : q = i + 1 + j
                      · have := HF2.out
                        rw [← e, h2] at this
                        cases this
                        unfold ovB
                        by_cases ha : x1 < x2 + n2
                        · rw [decide_eq_false (p := (x2 : Int) < (x1 : Int) + (n1 : Int)) (by omega)]; simp
                        · rw [decide_eq_false (p := (x1 : Int) < (x2 : Int) + (n2 : Int)) (by omega)]; rfl
                      · exact HI.out q b (by omega) h1 h2
                    case measure => simp [intOf]; omega
                  · have hyes : x1 < x2 + n2 ∧ x2 < x1 + n1 := of_decide_eq_true HZ.out
                    have HOV := Lib.hid (show overX X = true by
                      rw [← overX_perm HP.out]
                      refine overX_yes (show i < i + 1 + j by omega) HF.out HF2.out ?_
                      unfold ovB
                      rw [decide_eq_true (by show (x1 : Int) < x2 + n2; omega), decide_eq_true (by show (x2 : Int) < x1 + n1; omega), decide_eq_true (by show (y1 : Int) < y2 + n2; omega), decide_eq_true (by show (y2 : Int) < y1 + n1; omega)]; rfl)
                    go_wp2_with fail
                    go_ret2
                    exact ⟨by rw [HOK.out, HOV.out] <;> rfl, HB3.out.trans (HB9.out.mono HB3.out.size)⟩
              · have elj : decide ((j : Int) < (X.length : Int) - ((i : Int) + 1)) = false := decide_eq_false (by omega)
                have elj2 : decide ((j : Int) < ((X.length - (i + 1) : Nat) : Int)) = false := decide_eq_false (by omega)
                have HU2 := Lib.hid (show ∀ (p q : Nat) (a b : Bx), p < i + 1 → p < q → Y[p]? = some a → Y[q]? = some b → ovB a b = false from fun p q a b h1 h2 h3 h4 => by
                  by_cases hp : p < i
                  · exact HU.out p q a b hp h2 h3 h4
                  · obtain rfl : p = i := by omega
                    have := HF.out
                    rw [h3] at this
                    cases this
                    have hql : q < Y.length := (List.getElem?_eq_some_iff.1 h4).1
                    exact HI.out q b (by omega) h2 h4)
                clear HU HI XA
                go_wp2_with fail
                go_roundw
                case rel => exact ⟨i + 1, by omega, by go_num, HB, HU2⟩
                case measure => simp [intOf]; omega
          · have hil : X.length ≤ i + 1 := by omega
            have HU2 := Lib.hid (show ∀ (p q : Nat) (a b : Bx), p < i + 1 → p < q → Y[p]? = some a → Y[q]? = some b → ovB a b = false from fun p q a b h1 h2 h3 h4 => by
              have hql : q < Y.length := (List.getElem?_eq_some_iff.1 h4).1
              exact HU.out p q a b (by omega) h2 h3 h4)
            have e0 : decide ((0 : Int) < (X.length : Int) - ((i : Int) + 1)) = false := decide_eq_false (by omega)
            have e02 : decide ((0 : Int) < ((X.length - (i + 1) : Nat) : Int)) = false := decide_eq_false (by omega)
            have hle1 : i + 1 ≤ cap := by omega
            clear HU
            by_cases ecap : cap = i + 1
            · subst ecap
              go_wp2_with fail
              refine wp_loop_rounds 1 ?_
              rw [rounds_succ]
              go_wp2_with fail
              go_roundw
              case rel => exact ⟨i + 1, by omega, by go_num, HB1, HU2⟩
              case measure => simp [intOf]; omega
            · go_wp2_with fail
              refine wp_loop_rounds 1 ?_
              rw [rounds_succ]
              go_wp2_with fail
              go_roundw
              case rel => exact ⟨i + 1, by omega, by go_num, HB1, HU2⟩
              case measure => simp [intOf]; omega
        · have elt : decide ((i : Int) < (X.length : Int)) = false := decide_eq_false (by omega)
          have HOV := Lib.hid (show overX X = false by
            rw [← overX_perm HP.out]
            exact overX_no (fun p q a b h1 h2 h3 => HU.out p q a b (by have h4 := (List.getElem?_eq_some_iff.1 h2).1; omega) h1 h2 h3))
          clear HU
          go_wp2_with fail
          go_ret2
          exact ⟨by rw [HOK.out, HOV.out] <;> rfl, HB3.out.trans (HB.out.mono HB3.out.size)⟩
end Go.Proofs.Ythapidnjioindaa
