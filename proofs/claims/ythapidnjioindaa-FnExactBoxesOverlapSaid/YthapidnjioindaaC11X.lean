/- Contract: BoxesOverlap of the model. -/
import Derived.Test.YthapidnjioindaaC11P
import Derived.Deep.DeepCutAuto
namespace Go.Proofs.Ythapidnjioindaa
open Go.RowKit

set_option maxRecDepth 100000 in
set_option maxHeartbeats 16000000 in
theorem overlap_spec (X : List Bx) (b o n c : Nat) (w : World) (h : RdBx w (some ⟨b, o, none⟩) n X) (hn : n ≤ 1048577) :
    Calls Try.prog 15 #[.slice (some ⟨b, o, none⟩) n c] w fun e w' => e = .returned (.tuple #[.bool (okX X && overX X), .bool (okX X)]) ∧ Below w.heap.size w w' := by
  have HR := Lib.hid h
  have hXn := h.1
  clear h
  by_cases h40 : 40 < n
  · have hok : okX X = false := by unfold okX; rw [decide_eq_false (by omega)]; rfl
    have e40 : decide ((40 : Int) < (n : Int)) = true := decide_eq_true (by omega)
    rw [hok]
    go_enter Try.func15, Try.ntmps15
    go_wp2_with fail
    go_ret2
    exact ⟨rfl, Below.refl _ _⟩
  have e40 : decide ((40 : Int) < (n : Int)) = false := decide_eq_false (by omega)
  have HX := Lib.hid hXn
  clear hXn
  go_enter Try.func15, Try.ntmps15
  go_wp2_with fail
  go_loopw [4] (fun i wr => ∃ k : Nat, k ≤ n ∧ i = .int .i64 (k : Int) ∧ Hid (Below w.heap.size w wr) ∧ Hid (∀ (j : Nat) (F : Bx), j < k → X[j]? = some F → boxB F.x F.y F.n = true)) (fun i _ => n - (intOf i).toNat)
  case atStart => exact ⟨0, by omega, rfl, Lib.hid (Below.refl _ _), Lib.hid (fun j F h => by omega)⟩
  case round =>
    obtain ⟨k, hk, rfl, HB, HV⟩ := hrel
    by_cases hlt : k < n
    · have elt : decide ((k : Int) < (n : Int)) = true := decide_eq_true (by omega)
      obtain ⟨F, hF⟩ := atB_of_lt HX.out hlt
      obtain ⟨b_, o_, e_, _, hc⟩ := (HR.out.below HB.out).2 (by omega)
      cases e_
      obtain ⟨x0, x1, x2⟩ := hc k F hF
      have CV := fun W => l11Box_any F.x F.y F.n W
      obtain ⟨v, hv⟩ : ∃ v, boxB F.x F.y F.n = v := ⟨_, rfl⟩
      rw [hv] at CV
      have CV := Lib.hid CV
      have HF := Lib.hid hF
      have HVV := Lib.hid hv
      clear hc hF hv
      cases v
      · have hok : okX X = false := by unfold okX; rw [validX_no HF.out HVV.out]; simp
        have HOK := Lib.hid hok
        clear hok
        go_wp2_with fail
        refine (CV.out _).mono ?_
        rintro e w2 ⟨rfl, hb2⟩
        have HB2 := Lib.hid (HB.out.trans (hb2.mono HB.out.size))
        clear hb2 x0 x1 x2
        go_wp2_with fail
        go_ret2
        exact ⟨by rw [HOK.out] <;> rfl, HB2.out⟩
      · go_wp2_with fail
        refine (CV.out _).mono ?_
        rintro e w2 ⟨rfl, hb2⟩
        have HB2 := Lib.hid (HB.out.trans (hb2.mono HB.out.size))
        clear hb2 x0 x1 x2
        go_wp2_with fail
        go_roundw
        case rel =>
          refine ⟨k + 1, by omega, by go_num, HB2, Lib.hid (fun j F' hj hF' => ?_)⟩
          by_cases e : j = k
          · subst e
            have := HF.out
            rw [hF'] at this
            cases this
            exact HVV.out
          · exact HV.out j F' (by omega) hF'
        case measure => simp [intOf]; omega
    · have elt : decide ((k : Int) < (n : Int)) = false := decide_eq_false (by omega)
      obtain rfl : k = n := by omega
      have hval : validX X = true := validX_yes (fun j F hF => HV.out j F (by have h1 := (List.getElem?_eq_some_iff.1 hF).1; have := HX.out; omega) hF)
      have hok : okX X = true := by unfold okX; rw [hval, decide_eq_true (by have := HX.out; omega)]; rfl
      have HVAL := Lib.hid hval
      have HOK := Lib.hid hok
      clear hval hok HV elt
      go_wp2_with fail
      go_loopw [5] (fun i wr => ∃ i' : Nat, i' ≤ k ∧ i = .int .i64 (i' : Int) ∧ Hid (Below w.heap.size w wr) ∧ Hid (∀ (p q : Nat) (a b : Bx), q < i' → p < q → X[p]? = some a → X[q]? = some b → ovB b a = false)) (fun i _ => k - (intOf i).toNat)
      case atStart => exact ⟨0, by omega, rfl, HB, Lib.hid (fun p q a b h => by omega)⟩
      case round =>
        clear HB
        obtain ⟨i, hi, rfl, HB, HU⟩ := hrel
        by_cases hlt : i < k
        · have elt : decide ((i : Int) < (k : Int)) = true := decide_eq_true (by omega)
          obtain ⟨F, hF⟩ := atB_of_lt HX.out hlt
          have hvF := validX_at HVAL.out (List.mem_of_getElem? hF)
          obtain ⟨x1, y1, n1, ex, ey, en, q1, q2, q3, q4, _⟩ := boxB_yes hvF
          have hFE : F = Bx.mk (x1 : Int) (y1 : Int) (n1 : Int) := by cases F; simp_all
          subst hFE
          have HF := Lib.hid hF
          clear hF hvF ex ey en
          go_wp2_with fail
          go_loopw [6] (fun jv wr => ∃ j : Nat, j ≤ i ∧ jv = .int .i64 (j : Int) ∧ Hid (Below w.heap.size w wr) ∧ Hid (∀ (p : Nat) (a : Bx), p < j → X[p]? = some a → ovB (Bx.mk (x1 : Int) (y1 : Int) (n1 : Int)) a = false)) (fun jv _ => i - (intOf jv).toNat)
          case atStart => exact ⟨0, by omega, rfl, HB, Lib.hid (fun p a h => by omega)⟩
          case round =>
            clear HB
            obtain ⟨j, hj, rfl, HB, HI⟩ := hrel
            by_cases hlj : j < i
            · have elj : decide ((j : Int) < (i : Int)) = true := decide_eq_true (by omega)
              obtain ⟨F2, hF2⟩ := atB_of_lt HX.out (show j < k by omega)
              have hvF := validX_at HVAL.out (List.mem_of_getElem? hF2)
              obtain ⟨x2, y2, n2, ex, ey, en, p1, p2, p3, p4, _⟩ := boxB_yes hvF
              have hFE2 : F2 = Bx.mk (x2 : Int) (y2 : Int) (n2 : Int) := by cases F2; simp_all
              subst hFE2
              have HF2 := Lib.hid hF2
              clear hF2 hvF ex ey en
              obtain ⟨b_, o_, e_, _, hc⟩ := (HR.out.below HB.out).2 (by omega)
              cases e_
              obtain ⟨x0, x1_, x2_⟩ := hc i _ HF.out
              obtain ⟨z0, z1_, z2_⟩ := hc j _ HF2.out
              simp only at x0 x1_ x2_ z0 z1_ z2_
              clear hc
              go_upto_region 14 with fail
              go_cut [7, 8] (fun va vb wx => ∃ qa qb, va = .pointer (some ⟨qa, 0, none⟩) ∧ vb = .pointer (some ⟨qb, 0, none⟩) ∧ BoxF wx qa [.int .i64 (x1 : Int), .int .i64 (y1 : Int), .int .i64 (n1 : Int)] 25 ∧ BoxF wx qb [.int .i64 (x2 : Int), .int .i64 (y2 : Int), .int .i64 (n2 : Int)] 25 ∧ Below wr.heap.size wr wx)
              case first =>
                have P1B := Lib.hid ((BoxF.new wr [.int .i64 (x2 : Int), .int .i64 (y2 : Int), .int .i64 (n2 : Int)] 25).alloc (.cells #[.int .i64 (x1 : Int), .int .i64 (y1 : Int), .int .i64 (n1 : Int)] 25 (0, 0)))
                have P1A0 := BoxF.new (wr.alloc (.cells #[.int .i64 (x2 : Int), .int .i64 (y2 : Int), .int .i64 (n2 : Int)] 25 (0, 0))) [.int .i64 (x1 : Int), .int .i64 (y1 : Int), .int .i64 (n1 : Int)] 25
                have P2A := Lib.hid ((BoxF.new wr [.int .i64 (x1 : Int), .int .i64 (y1 : Int), .int .i64 (n1 : Int)] 25).alloc (.cells #[.int .i64 (x2 : Int), .int .i64 (y2 : Int), .int .i64 (n2 : Int)] 25 (0, 0)))
                have P2B0 := BoxF.new (wr.alloc (.cells #[.int .i64 (x1 : Int), .int .i64 (y1 : Int), .int .i64 (n1 : Int)] 25 (0, 0))) [.int .i64 (x2 : Int), .int .i64 (y2 : Int), .int .i64 (n2 : Int)] 25
                simp only [World.size_alloc] at P1A0 P2B0
                have P1A := Lib.hid P1A0
                have P2B := Lib.hid P2B0
                have L1 := Lib.hid (((Below.refl wr.heap.size wr).alloc (Nat.le_refl _) (.cells #[.int .i64 (x2 : Int), .int .i64 (y2 : Int), .int .i64 (n2 : Int)] 25 (0, 0))).alloc (by simp) (.cells #[.int .i64 (x1 : Int), .int .i64 (y1 : Int), .int .i64 (n1 : Int)] 25 (0, 0)))
                have L2 := Lib.hid (((Below.refl wr.heap.size wr).alloc (Nat.le_refl _) (.cells #[.int .i64 (x1 : Int), .int .i64 (y1 : Int), .int .i64 (n1 : Int)] 25 (0, 0))).alloc (by simp) (.cells #[.int .i64 (x2 : Int), .int .i64 (y2 : Int), .int .i64 (n2 : Int)] 25 (0, 0)))
                clear P1A0 P2B0
                go_region
                all_goals
                  go_wp2_with fail
                  go_meet
                  case rel =>
                    first
                      | exact ⟨_, _, rfl, rfl, P1A.out.drew 1, P1B.out.drew 1, below_drewN' L1.out 1⟩
                      | exact ⟨_, _, rfl, rfl, P2A.out.drew 1, P2B.out.drew 1, below_drewN' L2.out 1⟩
              case rest =>
                obtain ⟨qa, qb, rfl, rfl, XA, XB, hbw⟩ := hcut
                clear x0 x1_ x2_ z0 z1_ z2_
                have d0 := XA.at 0
                have d1 := XA.at 1
                have d2 := XA.at 2
                have f0 := XB.at 0
                have f1 := XB.at 1
                have f2 := XB.at 2
                simp only [List.getElem?_cons_zero, List.getElem?_cons_succ] at d0 d1 d2 f0 f1 f2
                have HB9 := Lib.hid (HB.out.trans (hbw.mono HB.out.size))
                clear XA XB hbw HB
                obtain ⟨p1, e1⟩ : ∃ p, decide ((x1 : Int) < (x2 : Int) + (n2 : Int)) = p := ⟨_, rfl⟩
                obtain ⟨p2, e2⟩ : ∃ p, decide ((x2 : Int) < (x1 : Int) + (n1 : Int)) = p := ⟨_, rfl⟩
                obtain ⟨p3, e3⟩ : ∃ p, decide ((y1 : Int) < (y2 : Int) + (n2 : Int)) = p := ⟨_, rfl⟩
                obtain ⟨p4, e4⟩ : ∃ p, decide ((y2 : Int) < (y1 : Int) + (n1 : Int)) = p := ⟨_, rfl⟩
                cases p1
                · have P1 := Lib.hid e1
                  have HOV := Lib.hid (show ovB (Bx.mk (x1 : Int) (y1 : Int) (n1 : Int)) (Bx.mk (x2 : Int) (y2 : Int) (n2 : Int)) = false by unfold ovB; rw [P1.out] <;> rfl)
                  go_wp2_with fail
                  go_roundw
                  case rel =>
                    refine ⟨j + 1, by omega, by go_num, HB9, Lib.hid (fun p a hp h1 => ?_)⟩
                    by_cases e : p = j
                    · have := HF2.out
                      rw [← e, h1] at this
                      cases this
                      exact HOV.out
                    · exact HI.out p a (by omega) h1
                  case measure => simp [intOf]; omega
                · have P1 := Lib.hid e1
                  cases p2
                  · have P2 := Lib.hid e2
                    have HOV := Lib.hid (show ovB (Bx.mk (x1 : Int) (y1 : Int) (n1 : Int)) (Bx.mk (x2 : Int) (y2 : Int) (n2 : Int)) = false by unfold ovB; rw [P1.out, P2.out] <;> rfl)
                    go_wp2_with fail
                    go_roundw
                    case rel =>
                      refine ⟨j + 1, by omega, by go_num, HB9, Lib.hid (fun p a hp h1 => ?_)⟩
                      by_cases e : p = j
                      · have := HF2.out
                        rw [← e, h1] at this
                        cases this
                        exact HOV.out
                      · exact HI.out p a (by omega) h1
                    case measure => simp [intOf]; omega
                  · have P2 := Lib.hid e2
                    cases p3
                    · have P3 := Lib.hid e3
                      have HOV := Lib.hid (show ovB (Bx.mk (x1 : Int) (y1 : Int) (n1 : Int)) (Bx.mk (x2 : Int) (y2 : Int) (n2 : Int)) = false by unfold ovB; rw [P1.out, P2.out, P3.out] <;> rfl)
                      go_wp2_with fail
                      go_roundw
                      case rel =>
                        refine ⟨j + 1, by omega, by go_num, HB9, Lib.hid (fun p a hp h1 => ?_)⟩
                        by_cases e : p = j
                        · have := HF2.out
                          rw [← e, h1] at this
                          cases this
                          exact HOV.out
                        · exact HI.out p a (by omega) h1
                      case measure => simp [intOf]; omega
                    · have P3 := Lib.hid e3
                      cases p4
                      · have P4 := Lib.hid e4
                        have HOV := Lib.hid (show ovB (Bx.mk (x1 : Int) (y1 : Int) (n1 : Int)) (Bx.mk (x2 : Int) (y2 : Int) (n2 : Int)) = false by unfold ovB; rw [P1.out, P2.out, P3.out, P4.out] <;> rfl)
                        go_wp2_with fail
                        go_roundw
                        case rel =>
                          refine ⟨j + 1, by omega, by go_num, HB9, Lib.hid (fun p a hp h1 => ?_)⟩
                          by_cases e : p = j
                          · have := HF2.out
                            rw [← e, h1] at this
                            cases this
                            exact HOV.out
                          · exact HI.out p a (by omega) h1
                        case measure => simp [intOf]; omega
                      · have P4 := Lib.hid e4
                        have HOV := Lib.hid (show overX X = true by
                          refine overX_yes (show j < i from hlj) HF2.out HF.out ?_
                          unfold ovB
                          rw [P2.out, P1.out, P4.out, P3.out] <;> rfl)
                        go_wp2_with fail
                        go_ret2
                        exact ⟨by rw [HOK.out, HOV.out] <;> rfl, HB9.out⟩
            · have elj : decide ((j : Int) < (i : Int)) = false := decide_eq_false (by omega)
              have HU2 := Lib.hid (show ∀ (p q : Nat) (a b : Bx), q < i + 1 → p < q → X[p]? = some a → X[q]? = some b → ovB b a = false from fun p q a b h1 h2 h3 h4 => by
                by_cases hq : q < i
                · exact HU.out p q a b hq h2 h3 h4
                · obtain rfl : q = i := by omega
                  have := HF.out
                  rw [h4] at this
                  cases this
                  exact HI.out p a (by omega) h3)
              clear HU HI
              go_wp2_with fail
              go_roundw
              case rel => exact ⟨i + 1, by omega, by go_num, HB, HU2⟩
              case measure => simp [intOf]; omega
        · have elt : decide ((i : Int) < (k : Int)) = false := decide_eq_false (by omega)
          have HOV := Lib.hid (show overX X = false from overX_no (fun p q a b h1 h2 h3 => ovB_symm (HU.out p q a b (by have h4 := (List.getElem?_eq_some_iff.1 h3).1; have := HX.out; omega) h1 h2 h3)))
          clear HU
          go_wp2_with fail
          go_ret2
          exact ⟨by rw [HOK.out, HOV.out] <;> rfl, HB.out⟩
end Go.Proofs.Ythapidnjioindaa
