/- Several small texts in one: SPArms. -/
import Derived.Test.YtgeidnnjljpdkaaDoorKBB
import Derived.Test.YtgeidnnjljpdkaaDoorKBC
import Derived.Test.YtgeidnnjljpdkaaDoorKBD
import Derived.Test.YtgeidnnjljpdkaaDoorKX
namespace Go.Proofs.YtgeidnnjljpdkaaDoor
open Go.RowKit Go.Lib

theorem cut_self {z sep : List UInt8} (h : (cut z sep).2.2 = false) : (cut z sep).1 = z := by
  unfold cut at h ⊢
  split at h
  · cases h
  · rename_i h0
    rw [if_neg h0]
theorem aOk_field {d l f s : Int} (h : FOk d l f s) : aOkB d l f s 0 0 0 0 0 0 0 0 0 0 0 = true := by
  unfold aOkB
  rw [decide_eq_true h]
  decide
theorem aOk_group {d l f s c k a t : Int} (h : FOk d l f s) (hg : gOkB c k a t = true) : aOkB d l f s 0 0 0 0 0 0 0 c k a t = true := by
  unfold aOkB
  rw [decide_eq_true h, hg, Bool.or_true]
  decide
/-- What is read of a text whose arms have an ordinary. -/
theorem third_eq {z : ByteArray} {d l f s gc gk ga gt : Int} {fok : Bool} {R : ByteArray} (hR : R.data.toList = (Lib.cut z.data.toList [44, 32]).2.1) (hPF : PAns ⟨(Lib.cut z.data.toList [44, 32]).1.toArray⟩ d l f s fok) (hPG : GAns R gc gk ga gt false) (hfl : (Lib.cut z.data.toList [44, 32]).2.2 = true)
    {b0 b1 b2 b3 b4 b5 b6 b7 b8 b9 b10 b11 b12 b13 b14 : Int} (g : aOkB b0 b1 b2 b3 b4 b5 b6 b7 b8 b9 b10 b11 b12 b13 b14 = true) (e : armsN b0 b1 b2 b3 b4 b5 b6 b7 b8 b9 b10 b11 b12 b13 b14 = z) :
    (d = b0 ∧ l = b1 ∧ f = b2 ∧ s = b3) ∧ (1 ≤ b4 ∧ b4 ≤ 7) ∧ (0 ≤ b5 ∧ b5 ≤ 4) ∧ (1 ≤ b6 ∧ b6 ≤ 9) ∧ (gNoB b7 b8 b9 b10 = true ∨ gOkB b7 b8 b9 b10 = true) ∧ (gNoB b11 b12 b13 b14 = true ∨ gOkB b11 b12 b13 b14 = true) ∧
    (if (cut R.data.toList betweenL).2.2 = true then cut R.data.toList betweenL else cut R.data.toList aboveL) = (frontL b4 b5 b6 b7 b8 b9 b10, if gNoB b11 b12 b13 b14 = true then [] else gL b11 b12 b13 b14, !gNoB b11 b12 b13 b14) ∧
    cut (frontL b4 b5 b6 b7 b8 b9 b10) [32, 99, 104, 97, 114, 103, 101, 100, 32, 119, 105, 116, 104, 32] = (oL b4 b5 b6, if gNoB b7 b8 b9 b10 = true then [] else gL b7 b8 b9 b10, !gNoB b7 b8 b9 b10) := by
  obtain ⟨hf, h1 | h1 | h1⟩ := arms_parts g e
  · exact absurd (show true = false from hfl.symm.trans (by rw [h1.2])) (by decide)
  · obtain ⟨⟨_, _, hg⟩, hq⟩ := h1
    have q2 := group_one hPG hg (by rw [hR, hq])
    cases q2.1
  · obtain ⟨⟨ho, hn, hx, hg, hg'⟩, hq⟩ := h1
    have q := field_one hPF hf (by rw [hq])
    have hRR : R.data.toList = frontL b4 b5 b6 b7 b8 b9 b10 ++ arL b4 b11 b12 b13 b14 := by rw [hR, hq]
    refine ⟨q.2, ho, hn, hx, hg, hg', ?_, cut_on ho hn hx⟩
    rw [hRR]
    exact (cut_around ho hn hx hg hg').2
theorem l6_third_100 {z : ByteArray} {d l f s o n x c k a t c' k' a' t' : Int} {ok : Bool} (h : AAns z d l f s o n x c k a t c' k' a' t' ok) (hzz : z.size ≤ 1048576) (hz : ¬ (240 : Int) < (z.size : Int)) {d1 l1 f1 s1 gc gk ga gt : Int} {R F : ByteArray} (hF' : F = ⟨(Lib.cut z.data.toList [44, 32]).1.toArray⟩) (hR' : R = ⟨(Lib.cut z.data.toList [44, 32]).2.1.toArray⟩)
    (hPF : PAns F d1 l1 f1 s1 true) (hPG : GAns R gc gk ga gt false) (hfl : (Lib.cut z.data.toList [44, 32]).2.2 = true)
    (cC0 : ∀ W, Calls Tryd.prog 113 #[.string z, .string ⟨#[44, 32]⟩] W fun e w' => e = .returned (.tuple #[.string F, .string R, .bool true]) ∧ ∃ q, w' = W.drewN q)
    (cF : ∀ W, Calls Tryd.prog 114 #[.string F] W (AnsF W d1 l1 f1 s1 true)) (cG : ∀ W, Calls Tryd.prog 115 #[.string R] W (AnsF W gc gk ga gt false))
    (hhb : (Lib.cut R.data.toList betweenL).2.2 = true) (hch : (Lib.cut (Lib.cut R.data.toList betweenL).1 [32, 99, 104, 97, 114, 103, 101, 100, 32, 119, 105, 116, 104, 32]).2.2 = false) : ∃ (u0 u1 u2 u3 u4 u5 u6 u7 u8 u9 u10 u11 u12 u13 u14 : Int), (ok = true → u0 = d ∧ u1 = l ∧ u2 = f ∧ u3 = s ∧ u4 = o ∧ u5 = n ∧ u6 = x ∧ u7 = c ∧ u8 = k ∧ u9 = a ∧ u10 = t ∧ u11 = c' ∧ u12 = k' ∧ u13 = a' ∧ u14 = t') ∧ ∀ w, Calls Tryd.prog 73 #[.string z] w (AnsA w u0 u1 u2 u3 u4 u5 u6 u7 u8 u9 u10 u11 u12 u13 u14 ok) := by
  have zl : z.data.toList.length = z.size := rfl
  have hl := cut_len z.data.toList [44, 32]
  have hR : R.data.toList = (Lib.cut z.data.toList [44, 32]).2.1 := by rw [hR']
  rw [hF'] at hPF
  have rl : R.data.toList.length = R.size := rfl
  have hsR : R.size ≤ 1048576 := by rw [← rl, hR]; omega
  have cB := fun W => l6Cut_any R ⟨#[32, 98, 101, 116, 119, 101, 101, 110, 32]⟩ hsR (by decide) (by decide) W
  rw [show (⟨#[32, 98, 101, 116, 119, 101, 101, 110, 32]⟩ : ByteArray).data.toList = betweenL by rfl, hhb] at cB
  obtain ⟨P, hP'⟩ : ∃ P : ByteArray, P = ⟨(Lib.cut R.data.toList betweenL).1.toArray⟩ := ⟨_, rfl⟩
  have hPl : P.data.toList = (Lib.cut R.data.toList betweenL).1 := by rw [hP']
  rw [← hPl] at hch
  have pl : P.data.toList.length = P.size := rfl
  have hl2 := cut_len R.data.toList betweenL
  have hsP : P.size ≤ 1048576 := by rw [← pl, hPl]; omega
  have hl3 := cut_len P.data.toList [32, 99, 104, 97, 114, 103, 101, 100, 32, 119, 105, 116, 104, 32]
  have y1 : (⟨(Lib.cut P.data.toList [32, 99, 104, 97, 114, 103, 101, 100, 32, 119, 105, 116, 104, 32]).1.toArray⟩ : ByteArray).size = (Lib.cut P.data.toList [32, 99, 104, 97, 114, 103, 101, 100, 32, 119, 105, 116, 104, 32]).1.length := rfl
  obtain ⟨o1, n1, x1, ook, hPP, _⟩ := parseOrd_impl ⟨(Lib.cut P.data.toList [32, 99, 104, 97, 114, 103, 101, 100, 32, 119, 105, 116, 104, 32]).1.toArray⟩ (by omega)
  have cP := fun W => specOParse_same _ (by omega) hPP W
  have y3 : (⟨(Lib.cut R.data.toList betweenL).2.1.toArray⟩ : ByteArray).size = (Lib.cut R.data.toList betweenL).2.1.length := rfl
  obtain ⟨p', k2', a2', t2', g2, hPA, _⟩ := parseGroup_impl ⟨(Lib.cut R.data.toList betweenL).2.1.toArray⟩ (by omega)
  have cA := fun W => l4Parse_same _ (by omega) hPA W
  have cC := fun W => l6Cut_any P ⟨#[32, 99, 104, 97, 114, 103, 101, 100, 32, 119, 105, 116, 104, 32]⟩ hsP (by decide) (by decide) W
  rw [show (⟨#[32, 99, 104, 97, 114, 103, 101, 100, 32, 119, 105, 116, 104, 32]⟩ : ByteArray).data.toList = [32, 99, 104, 97, 114, 103, 101, 100, 32, 119, 105, 116, 104, 32] by rfl, hch] at cC
  rw [← hP'] at cB
  obtain ⟨r, hr⟩ : ∃ r, aOkB d1 l1 f1 s1 o1 n1 x1 0 0 0 0 p' k2' a2' t2' = r := ⟨_, rfl⟩
  obtain ⟨v, hv⟩ : ∃ v, (ook && (g2 && (r && decide (armsN d1 l1 f1 s1 o1 n1 x1 0 0 0 0 p' k2' a2' t2' = z)))) = v := ⟨_, rfl⟩
  have hw := fun w => l6P_full_100 z _ _ P _ _ _ _ d1 l1 f1 s1 gc gk ga gt o1 n1 x1 p' k2' a2' t2' ook g2 r v w hz cC0 cF cG cB cC cP cA (fun W => l5Good_any d1 l1 f1 s1 o1 n1 x1 0 0 0 0 p' k2' a2' t2' W r hr) (fun e W => l6Text_any d1 l1 f1 s1 o1 n1 x1 0 0 0 0 p' k2' a2' t2' W (hr.trans e)) hv
  cases ok
  · cases v
    · exact ⟨0, 0, 0, 0, 0, 0, 0, 0, 0, 0, 0, 0, 0, 0, 0, (fun e => nomatch e), hw⟩
    · exfalso
      simp only [Bool.and_eq_true, decide_eq_true_eq] at hv
      have q := aAns_true h (hr.trans hv.2.2.1) hv.2.2.2
      cases q.1
  · rcases h with ⟨_, g0, e0⟩ | ⟨h0, _⟩
    · have q := third_eq hR hPF hPG hfl g0 e0
      obtain ⟨q0, ho, hn, hx, hg, hg', hX, hY⟩ := q
      rw [if_pos hhb] at hX
      have ef : P.data.toList = frontL o n x c k a t := by rw [hPl, hX]
      rw [← ef] at hY
      have qp := ord_one hPP ho hn hx (by rw [hY])
      have fc : (!gNoB c k a t) = false := by rw [← hch, hY]
      have zo := gNo_zero4 (show gNoB c k a t = true by simpa using fc)
      have fa : (!gNoB c' k' a' t') = true := by rw [← hhb, hX]
      have qa := group_end hPA hg' (by rw [hX])
      have ga2 : g2 = true := qa.2.2.2.2 (by simpa using fa)
      have hE : d1 = d ∧ l1 = l ∧ f1 = f ∧ s1 = s ∧ o1 = o ∧ n1 = n ∧ x1 = x ∧ 0 = c ∧ 0 = k ∧ 0 = a ∧ 0 = t ∧ p' = c' ∧ k2' = k' ∧ a2' = a' ∧ t2' = t' := ⟨q0.1, q0.2.1, q0.2.2.1, q0.2.2.2, qp.2.1, qp.2.2.1, qp.2.2.2, zo.1.symm, zo.2.1.symm, zo.2.2.1.symm, zo.2.2.2.symm, qa.1, qa.2.1, qa.2.2.1, qa.2.2.2.1⟩
      have hr1 : r = true := by
        obtain ⟨rfl, rfl, rfl, rfl, rfl, rfl, rfl, rfl, rfl, rfl, rfl, rfl, rfl, rfl, rfl⟩ := hE
        exact hr.symm.trans g0
      have ht1 : armsN d1 l1 f1 s1 o1 n1 x1 0 0 0 0 p' k2' a2' t2' = z := by
        obtain ⟨rfl, rfl, rfl, rfl, rfl, rfl, rfl, rfl, rfl, rfl, rfl, rfl, rfl, rfl, rfl⟩ := hE
        exact e0
      have hv1 : v = true := by
        rw [← hv, hr1, qp.1, ga2, decide_eq_true ht1]
        rfl
      subst hv1
      exact ⟨d1, l1, f1, s1, o1, n1, x1, 0, 0, 0, 0, p', k2', a2', t2', fun _ => hE, hw⟩
    · cases h0
theorem l6_third_101 {z : ByteArray} {d l f s o n x c k a t c' k' a' t' : Int} {ok : Bool} (h : AAns z d l f s o n x c k a t c' k' a' t' ok) (hzz : z.size ≤ 1048576) (hz : ¬ (240 : Int) < (z.size : Int)) {d1 l1 f1 s1 gc gk ga gt : Int} {R F : ByteArray} (hF' : F = ⟨(Lib.cut z.data.toList [44, 32]).1.toArray⟩) (hR' : R = ⟨(Lib.cut z.data.toList [44, 32]).2.1.toArray⟩)
    (hPF : PAns F d1 l1 f1 s1 true) (hPG : GAns R gc gk ga gt false) (hfl : (Lib.cut z.data.toList [44, 32]).2.2 = true)
    (cC0 : ∀ W, Calls Tryd.prog 113 #[.string z, .string ⟨#[44, 32]⟩] W fun e w' => e = .returned (.tuple #[.string F, .string R, .bool true]) ∧ ∃ q, w' = W.drewN q)
    (cF : ∀ W, Calls Tryd.prog 114 #[.string F] W (AnsF W d1 l1 f1 s1 true)) (cG : ∀ W, Calls Tryd.prog 115 #[.string R] W (AnsF W gc gk ga gt false))
    (hhb : (Lib.cut R.data.toList betweenL).2.2 = true) (hch : (Lib.cut (Lib.cut R.data.toList betweenL).1 [32, 99, 104, 97, 114, 103, 101, 100, 32, 119, 105, 116, 104, 32]).2.2 = true) : ∃ (u0 u1 u2 u3 u4 u5 u6 u7 u8 u9 u10 u11 u12 u13 u14 : Int), (ok = true → u0 = d ∧ u1 = l ∧ u2 = f ∧ u3 = s ∧ u4 = o ∧ u5 = n ∧ u6 = x ∧ u7 = c ∧ u8 = k ∧ u9 = a ∧ u10 = t ∧ u11 = c' ∧ u12 = k' ∧ u13 = a' ∧ u14 = t') ∧ ∀ w, Calls Tryd.prog 73 #[.string z] w (AnsA w u0 u1 u2 u3 u4 u5 u6 u7 u8 u9 u10 u11 u12 u13 u14 ok) := by
  have zl : z.data.toList.length = z.size := rfl
  have hl := cut_len z.data.toList [44, 32]
  have hR : R.data.toList = (Lib.cut z.data.toList [44, 32]).2.1 := by rw [hR']
  rw [hF'] at hPF
  have rl : R.data.toList.length = R.size := rfl
  have hsR : R.size ≤ 1048576 := by rw [← rl, hR]; omega
  have cB := fun W => l6Cut_any R ⟨#[32, 98, 101, 116, 119, 101, 101, 110, 32]⟩ hsR (by decide) (by decide) W
  rw [show (⟨#[32, 98, 101, 116, 119, 101, 101, 110, 32]⟩ : ByteArray).data.toList = betweenL by rfl, hhb] at cB
  obtain ⟨P, hP'⟩ : ∃ P : ByteArray, P = ⟨(Lib.cut R.data.toList betweenL).1.toArray⟩ := ⟨_, rfl⟩
  have hPl : P.data.toList = (Lib.cut R.data.toList betweenL).1 := by rw [hP']
  rw [← hPl] at hch
  have pl : P.data.toList.length = P.size := rfl
  have hl2 := cut_len R.data.toList betweenL
  have hsP : P.size ≤ 1048576 := by rw [← pl, hPl]; omega
  have hl3 := cut_len P.data.toList [32, 99, 104, 97, 114, 103, 101, 100, 32, 119, 105, 116, 104, 32]
  have y1 : (⟨(Lib.cut P.data.toList [32, 99, 104, 97, 114, 103, 101, 100, 32, 119, 105, 116, 104, 32]).1.toArray⟩ : ByteArray).size = (Lib.cut P.data.toList [32, 99, 104, 97, 114, 103, 101, 100, 32, 119, 105, 116, 104, 32]).1.length := rfl
  obtain ⟨o1, n1, x1, ook, hPP, _⟩ := parseOrd_impl ⟨(Lib.cut P.data.toList [32, 99, 104, 97, 114, 103, 101, 100, 32, 119, 105, 116, 104, 32]).1.toArray⟩ (by omega)
  have cP := fun W => specOParse_same _ (by omega) hPP W
  have y2 : (⟨(Lib.cut P.data.toList [32, 99, 104, 97, 114, 103, 101, 100, 32, 119, 105, 116, 104, 32]).2.1.toArray⟩ : ByteArray).size = (Lib.cut P.data.toList [32, 99, 104, 97, 114, 103, 101, 100, 32, 119, 105, 116, 104, 32]).2.1.length := rfl
  obtain ⟨p, k2, a2, t2, g1, hPO, _⟩ := parseGroup_impl ⟨(Lib.cut P.data.toList [32, 99, 104, 97, 114, 103, 101, 100, 32, 119, 105, 116, 104, 32]).2.1.toArray⟩ (by omega)
  have cO := fun W => l4Parse_same _ (by omega) hPO W
  have y3 : (⟨(Lib.cut R.data.toList betweenL).2.1.toArray⟩ : ByteArray).size = (Lib.cut R.data.toList betweenL).2.1.length := rfl
  obtain ⟨p', k2', a2', t2', g2, hPA, _⟩ := parseGroup_impl ⟨(Lib.cut R.data.toList betweenL).2.1.toArray⟩ (by omega)
  have cA := fun W => l4Parse_same _ (by omega) hPA W
  have cC := fun W => l6Cut_any P ⟨#[32, 99, 104, 97, 114, 103, 101, 100, 32, 119, 105, 116, 104, 32]⟩ hsP (by decide) (by decide) W
  rw [show (⟨#[32, 99, 104, 97, 114, 103, 101, 100, 32, 119, 105, 116, 104, 32]⟩ : ByteArray).data.toList = [32, 99, 104, 97, 114, 103, 101, 100, 32, 119, 105, 116, 104, 32] by rfl, hch] at cC
  rw [← hP'] at cB
  obtain ⟨r, hr⟩ : ∃ r, aOkB d1 l1 f1 s1 o1 n1 x1 p k2 a2 t2 p' k2' a2' t2' = r := ⟨_, rfl⟩
  obtain ⟨v, hv⟩ : ∃ v, (ook && (g1 && (g2 && (r && decide (armsN d1 l1 f1 s1 o1 n1 x1 p k2 a2 t2 p' k2' a2' t2' = z))))) = v := ⟨_, rfl⟩
  have hw := fun w => l6P_full_101 z _ _ P _ _ _ _ d1 l1 f1 s1 gc gk ga gt o1 n1 x1 p k2 a2 t2 p' k2' a2' t2' ook g1 g2 r v w hz cC0 cF cG cB cC cP cO cA (fun W => l5Good_any d1 l1 f1 s1 o1 n1 x1 p k2 a2 t2 p' k2' a2' t2' W r hr) (fun e W => l6Text_any d1 l1 f1 s1 o1 n1 x1 p k2 a2 t2 p' k2' a2' t2' W (hr.trans e)) hv
  cases ok
  · cases v
    · exact ⟨0, 0, 0, 0, 0, 0, 0, 0, 0, 0, 0, 0, 0, 0, 0, (fun e => nomatch e), hw⟩
    · exfalso
      simp only [Bool.and_eq_true, decide_eq_true_eq] at hv
      have q := aAns_true h (hr.trans hv.2.2.2.1) hv.2.2.2.2
      cases q.1
  · rcases h with ⟨_, g0, e0⟩ | ⟨h0, _⟩
    · have q := third_eq hR hPF hPG hfl g0 e0
      obtain ⟨q0, ho, hn, hx, hg, hg', hX, hY⟩ := q
      rw [if_pos hhb] at hX
      have ef : P.data.toList = frontL o n x c k a t := by rw [hPl, hX]
      rw [← ef] at hY
      have qp := ord_one hPP ho hn hx (by rw [hY])
      have fc : (!gNoB c k a t) = true := by rw [← hch, hY]
      have qo := group_end hPO hg (by rw [hY])
      have go : g1 = true := qo.2.2.2.2 (by simpa using fc)
      have fa : (!gNoB c' k' a' t') = true := by rw [← hhb, hX]
      have qa := group_end hPA hg' (by rw [hX])
      have ga2 : g2 = true := qa.2.2.2.2 (by simpa using fa)
      have hE : d1 = d ∧ l1 = l ∧ f1 = f ∧ s1 = s ∧ o1 = o ∧ n1 = n ∧ x1 = x ∧ p = c ∧ k2 = k ∧ a2 = a ∧ t2 = t ∧ p' = c' ∧ k2' = k' ∧ a2' = a' ∧ t2' = t' := ⟨q0.1, q0.2.1, q0.2.2.1, q0.2.2.2, qp.2.1, qp.2.2.1, qp.2.2.2, qo.1, qo.2.1, qo.2.2.1, qo.2.2.2.1, qa.1, qa.2.1, qa.2.2.1, qa.2.2.2.1⟩
      have hr1 : r = true := by
        obtain ⟨rfl, rfl, rfl, rfl, rfl, rfl, rfl, rfl, rfl, rfl, rfl, rfl, rfl, rfl, rfl⟩ := hE
        exact hr.symm.trans g0
      have ht1 : armsN d1 l1 f1 s1 o1 n1 x1 p k2 a2 t2 p' k2' a2' t2' = z := by
        obtain ⟨rfl, rfl, rfl, rfl, rfl, rfl, rfl, rfl, rfl, rfl, rfl, rfl, rfl, rfl, rfl⟩ := hE
        exact e0
      have hv1 : v = true := by
        rw [← hv, hr1, qp.1, go, ga2, decide_eq_true ht1]
        rfl
      subst hv1
      exact ⟨d1, l1, f1, s1, o1, n1, x1, p, k2, a2, t2, p', k2', a2', t2', fun _ => hE, hw⟩
    · cases h0
theorem l6_third_010 {z : ByteArray} {d l f s o n x c k a t c' k' a' t' : Int} {ok : Bool} (h : AAns z d l f s o n x c k a t c' k' a' t' ok) (hzz : z.size ≤ 1048576) (hz : ¬ (240 : Int) < (z.size : Int)) {d1 l1 f1 s1 gc gk ga gt : Int} {R F : ByteArray} (hF' : F = ⟨(Lib.cut z.data.toList [44, 32]).1.toArray⟩) (hR' : R = ⟨(Lib.cut z.data.toList [44, 32]).2.1.toArray⟩)
    (hPF : PAns F d1 l1 f1 s1 true) (hPG : GAns R gc gk ga gt false) (hfl : (Lib.cut z.data.toList [44, 32]).2.2 = true)
    (cC0 : ∀ W, Calls Tryd.prog 113 #[.string z, .string ⟨#[44, 32]⟩] W fun e w' => e = .returned (.tuple #[.string F, .string R, .bool true]) ∧ ∃ q, w' = W.drewN q)
    (cF : ∀ W, Calls Tryd.prog 114 #[.string F] W (AnsF W d1 l1 f1 s1 true)) (cG : ∀ W, Calls Tryd.prog 115 #[.string R] W (AnsF W gc gk ga gt false))
    (hhb : (Lib.cut R.data.toList betweenL).2.2 = false) (hha : (Lib.cut R.data.toList aboveL).2.2 = true) (hch : (Lib.cut (Lib.cut R.data.toList aboveL).1 [32, 99, 104, 97, 114, 103, 101, 100, 32, 119, 105, 116, 104, 32]).2.2 = false) : ∃ (u0 u1 u2 u3 u4 u5 u6 u7 u8 u9 u10 u11 u12 u13 u14 : Int), (ok = true → u0 = d ∧ u1 = l ∧ u2 = f ∧ u3 = s ∧ u4 = o ∧ u5 = n ∧ u6 = x ∧ u7 = c ∧ u8 = k ∧ u9 = a ∧ u10 = t ∧ u11 = c' ∧ u12 = k' ∧ u13 = a' ∧ u14 = t') ∧ ∀ w, Calls Tryd.prog 73 #[.string z] w (AnsA w u0 u1 u2 u3 u4 u5 u6 u7 u8 u9 u10 u11 u12 u13 u14 ok) := by
  have zl : z.data.toList.length = z.size := rfl
  have hl := cut_len z.data.toList [44, 32]
  have hR : R.data.toList = (Lib.cut z.data.toList [44, 32]).2.1 := by rw [hR']
  rw [hF'] at hPF
  have rl : R.data.toList.length = R.size := rfl
  have hsR : R.size ≤ 1048576 := by rw [← rl, hR]; omega
  have cB := fun W => l6Cut_any R ⟨#[32, 98, 101, 116, 119, 101, 101, 110, 32]⟩ hsR (by decide) (by decide) W
  rw [show (⟨#[32, 98, 101, 116, 119, 101, 101, 110, 32]⟩ : ByteArray).data.toList = betweenL by rfl, hhb] at cB
  have cAb := fun W => l6Cut_any R ⟨#[32, 97, 98, 111, 118, 101, 32]⟩ hsR (by decide) (by decide) W
  rw [show (⟨#[32, 97, 98, 111, 118, 101, 32]⟩ : ByteArray).data.toList = aboveL by rfl, hha] at cAb
  obtain ⟨P, hP'⟩ : ∃ P : ByteArray, P = ⟨(Lib.cut R.data.toList aboveL).1.toArray⟩ := ⟨_, rfl⟩
  have hPl : P.data.toList = (Lib.cut R.data.toList aboveL).1 := by rw [hP']
  rw [← hPl] at hch
  have pl : P.data.toList.length = P.size := rfl
  have hl2 := cut_len R.data.toList aboveL
  have hsP : P.size ≤ 1048576 := by rw [← pl, hPl]; omega
  have hl3 := cut_len P.data.toList [32, 99, 104, 97, 114, 103, 101, 100, 32, 119, 105, 116, 104, 32]
  have y1 : (⟨(Lib.cut P.data.toList [32, 99, 104, 97, 114, 103, 101, 100, 32, 119, 105, 116, 104, 32]).1.toArray⟩ : ByteArray).size = (Lib.cut P.data.toList [32, 99, 104, 97, 114, 103, 101, 100, 32, 119, 105, 116, 104, 32]).1.length := rfl
  obtain ⟨o1, n1, x1, ook, hPP, _⟩ := parseOrd_impl ⟨(Lib.cut P.data.toList [32, 99, 104, 97, 114, 103, 101, 100, 32, 119, 105, 116, 104, 32]).1.toArray⟩ (by omega)
  have cP := fun W => specOParse_same _ (by omega) hPP W
  have y3 : (⟨(Lib.cut R.data.toList aboveL).2.1.toArray⟩ : ByteArray).size = (Lib.cut R.data.toList aboveL).2.1.length := rfl
  obtain ⟨p', k2', a2', t2', g2, hPA, _⟩ := parseGroup_impl ⟨(Lib.cut R.data.toList aboveL).2.1.toArray⟩ (by omega)
  have cA := fun W => l4Parse_same _ (by omega) hPA W
  have cC := fun W => l6Cut_any P ⟨#[32, 99, 104, 97, 114, 103, 101, 100, 32, 119, 105, 116, 104, 32]⟩ hsP (by decide) (by decide) W
  rw [show (⟨#[32, 99, 104, 97, 114, 103, 101, 100, 32, 119, 105, 116, 104, 32]⟩ : ByteArray).data.toList = [32, 99, 104, 97, 114, 103, 101, 100, 32, 119, 105, 116, 104, 32] by rfl, hch] at cC
  rw [← hP'] at cAb
  obtain ⟨r, hr⟩ : ∃ r, aOkB d1 l1 f1 s1 o1 n1 x1 0 0 0 0 p' k2' a2' t2' = r := ⟨_, rfl⟩
  obtain ⟨v, hv⟩ : ∃ v, (ook && (g2 && (r && decide (armsN d1 l1 f1 s1 o1 n1 x1 0 0 0 0 p' k2' a2' t2' = z)))) = v := ⟨_, rfl⟩
  have hw := fun w => l6P_full_010 z _ _ _ _ P _ _ _ _ d1 l1 f1 s1 gc gk ga gt o1 n1 x1 p' k2' a2' t2' ook g2 r v w hz cC0 cF cG cB cAb cC cP cA (fun W => l5Good_any d1 l1 f1 s1 o1 n1 x1 0 0 0 0 p' k2' a2' t2' W r hr) (fun e W => l6Text_any d1 l1 f1 s1 o1 n1 x1 0 0 0 0 p' k2' a2' t2' W (hr.trans e)) hv
  cases ok
  · cases v
    · exact ⟨0, 0, 0, 0, 0, 0, 0, 0, 0, 0, 0, 0, 0, 0, 0, (fun e => nomatch e), hw⟩
    · exfalso
      simp only [Bool.and_eq_true, decide_eq_true_eq] at hv
      have q := aAns_true h (hr.trans hv.2.2.1) hv.2.2.2
      cases q.1
  · rcases h with ⟨_, g0, e0⟩ | ⟨h0, _⟩
    · have q := third_eq hR hPF hPG hfl g0 e0
      obtain ⟨q0, ho, hn, hx, hg, hg', hX, hY⟩ := q
      rw [if_neg (by rw [hhb]; decide)] at hX
      have ef : P.data.toList = frontL o n x c k a t := by rw [hPl, hX]
      rw [← ef] at hY
      have qp := ord_one hPP ho hn hx (by rw [hY])
      have fc : (!gNoB c k a t) = false := by rw [← hch, hY]
      have zo := gNo_zero4 (show gNoB c k a t = true by simpa using fc)
      have fa : (!gNoB c' k' a' t') = true := by rw [← hha, hX]
      have qa := group_end hPA hg' (by rw [hX])
      have ga2 : g2 = true := qa.2.2.2.2 (by simpa using fa)
      have hE : d1 = d ∧ l1 = l ∧ f1 = f ∧ s1 = s ∧ o1 = o ∧ n1 = n ∧ x1 = x ∧ 0 = c ∧ 0 = k ∧ 0 = a ∧ 0 = t ∧ p' = c' ∧ k2' = k' ∧ a2' = a' ∧ t2' = t' := ⟨q0.1, q0.2.1, q0.2.2.1, q0.2.2.2, qp.2.1, qp.2.2.1, qp.2.2.2, zo.1.symm, zo.2.1.symm, zo.2.2.1.symm, zo.2.2.2.symm, qa.1, qa.2.1, qa.2.2.1, qa.2.2.2.1⟩
      have hr1 : r = true := by
        obtain ⟨rfl, rfl, rfl, rfl, rfl, rfl, rfl, rfl, rfl, rfl, rfl, rfl, rfl, rfl, rfl⟩ := hE
        exact hr.symm.trans g0
      have ht1 : armsN d1 l1 f1 s1 o1 n1 x1 0 0 0 0 p' k2' a2' t2' = z := by
        obtain ⟨rfl, rfl, rfl, rfl, rfl, rfl, rfl, rfl, rfl, rfl, rfl, rfl, rfl, rfl, rfl⟩ := hE
        exact e0
      have hv1 : v = true := by
        rw [← hv, hr1, qp.1, ga2, decide_eq_true ht1]
        rfl
      subst hv1
      exact ⟨d1, l1, f1, s1, o1, n1, x1, 0, 0, 0, 0, p', k2', a2', t2', fun _ => hE, hw⟩
    · cases h0
theorem l6_third_011 {z : ByteArray} {d l f s o n x c k a t c' k' a' t' : Int} {ok : Bool} (h : AAns z d l f s o n x c k a t c' k' a' t' ok) (hzz : z.size ≤ 1048576) (hz : ¬ (240 : Int) < (z.size : Int)) {d1 l1 f1 s1 gc gk ga gt : Int} {R F : ByteArray} (hF' : F = ⟨(Lib.cut z.data.toList [44, 32]).1.toArray⟩) (hR' : R = ⟨(Lib.cut z.data.toList [44, 32]).2.1.toArray⟩)
    (hPF : PAns F d1 l1 f1 s1 true) (hPG : GAns R gc gk ga gt false) (hfl : (Lib.cut z.data.toList [44, 32]).2.2 = true)
    (cC0 : ∀ W, Calls Tryd.prog 113 #[.string z, .string ⟨#[44, 32]⟩] W fun e w' => e = .returned (.tuple #[.string F, .string R, .bool true]) ∧ ∃ q, w' = W.drewN q)
    (cF : ∀ W, Calls Tryd.prog 114 #[.string F] W (AnsF W d1 l1 f1 s1 true)) (cG : ∀ W, Calls Tryd.prog 115 #[.string R] W (AnsF W gc gk ga gt false))
    (hhb : (Lib.cut R.data.toList betweenL).2.2 = false) (hha : (Lib.cut R.data.toList aboveL).2.2 = true) (hch : (Lib.cut (Lib.cut R.data.toList aboveL).1 [32, 99, 104, 97, 114, 103, 101, 100, 32, 119, 105, 116, 104, 32]).2.2 = true) : ∃ (u0 u1 u2 u3 u4 u5 u6 u7 u8 u9 u10 u11 u12 u13 u14 : Int), (ok = true → u0 = d ∧ u1 = l ∧ u2 = f ∧ u3 = s ∧ u4 = o ∧ u5 = n ∧ u6 = x ∧ u7 = c ∧ u8 = k ∧ u9 = a ∧ u10 = t ∧ u11 = c' ∧ u12 = k' ∧ u13 = a' ∧ u14 = t') ∧ ∀ w, Calls Tryd.prog 73 #[.string z] w (AnsA w u0 u1 u2 u3 u4 u5 u6 u7 u8 u9 u10 u11 u12 u13 u14 ok) := by
  have zl : z.data.toList.length = z.size := rfl
  have hl := cut_len z.data.toList [44, 32]
  have hR : R.data.toList = (Lib.cut z.data.toList [44, 32]).2.1 := by rw [hR']
  rw [hF'] at hPF
  have rl : R.data.toList.length = R.size := rfl
  have hsR : R.size ≤ 1048576 := by rw [← rl, hR]; omega
  have cB := fun W => l6Cut_any R ⟨#[32, 98, 101, 116, 119, 101, 101, 110, 32]⟩ hsR (by decide) (by decide) W
  rw [show (⟨#[32, 98, 101, 116, 119, 101, 101, 110, 32]⟩ : ByteArray).data.toList = betweenL by rfl, hhb] at cB
  have cAb := fun W => l6Cut_any R ⟨#[32, 97, 98, 111, 118, 101, 32]⟩ hsR (by decide) (by decide) W
  rw [show (⟨#[32, 97, 98, 111, 118, 101, 32]⟩ : ByteArray).data.toList = aboveL by rfl, hha] at cAb
  obtain ⟨P, hP'⟩ : ∃ P : ByteArray, P = ⟨(Lib.cut R.data.toList aboveL).1.toArray⟩ := ⟨_, rfl⟩
  have hPl : P.data.toList = (Lib.cut R.data.toList aboveL).1 := by rw [hP']
  rw [← hPl] at hch
  have pl : P.data.toList.length = P.size := rfl
  have hl2 := cut_len R.data.toList aboveL
  have hsP : P.size ≤ 1048576 := by rw [← pl, hPl]; omega
  have hl3 := cut_len P.data.toList [32, 99, 104, 97, 114, 103, 101, 100, 32, 119, 105, 116, 104, 32]
  have y1 : (⟨(Lib.cut P.data.toList [32, 99, 104, 97, 114, 103, 101, 100, 32, 119, 105, 116, 104, 32]).1.toArray⟩ : ByteArray).size = (Lib.cut P.data.toList [32, 99, 104, 97, 114, 103, 101, 100, 32, 119, 105, 116, 104, 32]).1.length := rfl
  obtain ⟨o1, n1, x1, ook, hPP, _⟩ := parseOrd_impl ⟨(Lib.cut P.data.toList [32, 99, 104, 97, 114, 103, 101, 100, 32, 119, 105, 116, 104, 32]).1.toArray⟩ (by omega)
  have cP := fun W => specOParse_same _ (by omega) hPP W
  have y2 : (⟨(Lib.cut P.data.toList [32, 99, 104, 97, 114, 103, 101, 100, 32, 119, 105, 116, 104, 32]).2.1.toArray⟩ : ByteArray).size = (Lib.cut P.data.toList [32, 99, 104, 97, 114, 103, 101, 100, 32, 119, 105, 116, 104, 32]).2.1.length := rfl
  obtain ⟨p, k2, a2, t2, g1, hPO, _⟩ := parseGroup_impl ⟨(Lib.cut P.data.toList [32, 99, 104, 97, 114, 103, 101, 100, 32, 119, 105, 116, 104, 32]).2.1.toArray⟩ (by omega)
  have cO := fun W => l4Parse_same _ (by omega) hPO W
  have y3 : (⟨(Lib.cut R.data.toList aboveL).2.1.toArray⟩ : ByteArray).size = (Lib.cut R.data.toList aboveL).2.1.length := rfl
  obtain ⟨p', k2', a2', t2', g2, hPA, _⟩ := parseGroup_impl ⟨(Lib.cut R.data.toList aboveL).2.1.toArray⟩ (by omega)
  have cA := fun W => l4Parse_same _ (by omega) hPA W
  have cC := fun W => l6Cut_any P ⟨#[32, 99, 104, 97, 114, 103, 101, 100, 32, 119, 105, 116, 104, 32]⟩ hsP (by decide) (by decide) W
  rw [show (⟨#[32, 99, 104, 97, 114, 103, 101, 100, 32, 119, 105, 116, 104, 32]⟩ : ByteArray).data.toList = [32, 99, 104, 97, 114, 103, 101, 100, 32, 119, 105, 116, 104, 32] by rfl, hch] at cC
  rw [← hP'] at cAb
  obtain ⟨r, hr⟩ : ∃ r, aOkB d1 l1 f1 s1 o1 n1 x1 p k2 a2 t2 p' k2' a2' t2' = r := ⟨_, rfl⟩
  obtain ⟨v, hv⟩ : ∃ v, (ook && (g1 && (g2 && (r && decide (armsN d1 l1 f1 s1 o1 n1 x1 p k2 a2 t2 p' k2' a2' t2' = z))))) = v := ⟨_, rfl⟩
  have hw := fun w => l6P_full_011 z _ _ _ _ P _ _ _ _ d1 l1 f1 s1 gc gk ga gt o1 n1 x1 p k2 a2 t2 p' k2' a2' t2' ook g1 g2 r v w hz cC0 cF cG cB cAb cC cP cO cA (fun W => l5Good_any d1 l1 f1 s1 o1 n1 x1 p k2 a2 t2 p' k2' a2' t2' W r hr) (fun e W => l6Text_any d1 l1 f1 s1 o1 n1 x1 p k2 a2 t2 p' k2' a2' t2' W (hr.trans e)) hv
  cases ok
  · cases v
    · exact ⟨0, 0, 0, 0, 0, 0, 0, 0, 0, 0, 0, 0, 0, 0, 0, (fun e => nomatch e), hw⟩
    · exfalso
      simp only [Bool.and_eq_true, decide_eq_true_eq] at hv
      have q := aAns_true h (hr.trans hv.2.2.2.1) hv.2.2.2.2
      cases q.1
  · rcases h with ⟨_, g0, e0⟩ | ⟨h0, _⟩
    · have q := third_eq hR hPF hPG hfl g0 e0
      obtain ⟨q0, ho, hn, hx, hg, hg', hX, hY⟩ := q
      rw [if_neg (by rw [hhb]; decide)] at hX
      have ef : P.data.toList = frontL o n x c k a t := by rw [hPl, hX]
      rw [← ef] at hY
      have qp := ord_one hPP ho hn hx (by rw [hY])
      have fc : (!gNoB c k a t) = true := by rw [← hch, hY]
      have qo := group_end hPO hg (by rw [hY])
      have go : g1 = true := qo.2.2.2.2 (by simpa using fc)
      have fa : (!gNoB c' k' a' t') = true := by rw [← hha, hX]
      have qa := group_end hPA hg' (by rw [hX])
      have ga2 : g2 = true := qa.2.2.2.2 (by simpa using fa)
      have hE : d1 = d ∧ l1 = l ∧ f1 = f ∧ s1 = s ∧ o1 = o ∧ n1 = n ∧ x1 = x ∧ p = c ∧ k2 = k ∧ a2 = a ∧ t2 = t ∧ p' = c' ∧ k2' = k' ∧ a2' = a' ∧ t2' = t' := ⟨q0.1, q0.2.1, q0.2.2.1, q0.2.2.2, qp.2.1, qp.2.2.1, qp.2.2.2, qo.1, qo.2.1, qo.2.2.1, qo.2.2.2.1, qa.1, qa.2.1, qa.2.2.1, qa.2.2.2.1⟩
      have hr1 : r = true := by
        obtain ⟨rfl, rfl, rfl, rfl, rfl, rfl, rfl, rfl, rfl, rfl, rfl, rfl, rfl, rfl, rfl⟩ := hE
        exact hr.symm.trans g0
      have ht1 : armsN d1 l1 f1 s1 o1 n1 x1 p k2 a2 t2 p' k2' a2' t2' = z := by
        obtain ⟨rfl, rfl, rfl, rfl, rfl, rfl, rfl, rfl, rfl, rfl, rfl, rfl, rfl, rfl, rfl⟩ := hE
        exact e0
      have hv1 : v = true := by
        rw [← hv, hr1, qp.1, go, ga2, decide_eq_true ht1]
        rfl
      subst hv1
      exact ⟨d1, l1, f1, s1, o1, n1, x1, p, k2, a2, t2, p', k2', a2', t2', fun _ => hE, hw⟩
    · cases h0
theorem l6_third_000 {z : ByteArray} {d l f s o n x c k a t c' k' a' t' : Int} {ok : Bool} (h : AAns z d l f s o n x c k a t c' k' a' t' ok) (hzz : z.size ≤ 1048576) (hz : ¬ (240 : Int) < (z.size : Int)) {d1 l1 f1 s1 gc gk ga gt : Int} {R F : ByteArray} (hF' : F = ⟨(Lib.cut z.data.toList [44, 32]).1.toArray⟩) (hR' : R = ⟨(Lib.cut z.data.toList [44, 32]).2.1.toArray⟩)
    (hPF : PAns F d1 l1 f1 s1 true) (hPG : GAns R gc gk ga gt false) (hfl : (Lib.cut z.data.toList [44, 32]).2.2 = true)
    (cC0 : ∀ W, Calls Tryd.prog 113 #[.string z, .string ⟨#[44, 32]⟩] W fun e w' => e = .returned (.tuple #[.string F, .string R, .bool true]) ∧ ∃ q, w' = W.drewN q)
    (cF : ∀ W, Calls Tryd.prog 114 #[.string F] W (AnsF W d1 l1 f1 s1 true)) (cG : ∀ W, Calls Tryd.prog 115 #[.string R] W (AnsF W gc gk ga gt false))
    (hhb : (Lib.cut R.data.toList betweenL).2.2 = false) (hha : (Lib.cut R.data.toList aboveL).2.2 = false) (hch : (Lib.cut (Lib.cut R.data.toList aboveL).1 [32, 99, 104, 97, 114, 103, 101, 100, 32, 119, 105, 116, 104, 32]).2.2 = false) : ∃ (u0 u1 u2 u3 u4 u5 u6 u7 u8 u9 u10 u11 u12 u13 u14 : Int), (ok = true → u0 = d ∧ u1 = l ∧ u2 = f ∧ u3 = s ∧ u4 = o ∧ u5 = n ∧ u6 = x ∧ u7 = c ∧ u8 = k ∧ u9 = a ∧ u10 = t ∧ u11 = c' ∧ u12 = k' ∧ u13 = a' ∧ u14 = t') ∧ ∀ w, Calls Tryd.prog 73 #[.string z] w (AnsA w u0 u1 u2 u3 u4 u5 u6 u7 u8 u9 u10 u11 u12 u13 u14 ok) := by
  have zl : z.data.toList.length = z.size := rfl
  have hl := cut_len z.data.toList [44, 32]
  have hR : R.data.toList = (Lib.cut z.data.toList [44, 32]).2.1 := by rw [hR']
  rw [hF'] at hPF
  have rl : R.data.toList.length = R.size := rfl
  have hsR : R.size ≤ 1048576 := by rw [← rl, hR]; omega
  have cB := fun W => l6Cut_any R ⟨#[32, 98, 101, 116, 119, 101, 101, 110, 32]⟩ hsR (by decide) (by decide) W
  rw [show (⟨#[32, 98, 101, 116, 119, 101, 101, 110, 32]⟩ : ByteArray).data.toList = betweenL by rfl, hhb] at cB
  have cAb := fun W => l6Cut_any R ⟨#[32, 97, 98, 111, 118, 101, 32]⟩ hsR (by decide) (by decide) W
  rw [show (⟨#[32, 97, 98, 111, 118, 101, 32]⟩ : ByteArray).data.toList = aboveL by rfl, hha] at cAb
  obtain ⟨P, hP'⟩ : ∃ P : ByteArray, P = ⟨(Lib.cut R.data.toList aboveL).1.toArray⟩ := ⟨_, rfl⟩
  have hPl : P.data.toList = (Lib.cut R.data.toList aboveL).1 := by rw [hP']
  rw [← hPl] at hch
  have pl : P.data.toList.length = P.size := rfl
  have hl2 := cut_len R.data.toList aboveL
  have hsP : P.size ≤ 1048576 := by rw [← pl, hPl]; omega
  have hl3 := cut_len P.data.toList [32, 99, 104, 97, 114, 103, 101, 100, 32, 119, 105, 116, 104, 32]
  have y1 : (⟨(Lib.cut P.data.toList [32, 99, 104, 97, 114, 103, 101, 100, 32, 119, 105, 116, 104, 32]).1.toArray⟩ : ByteArray).size = (Lib.cut P.data.toList [32, 99, 104, 97, 114, 103, 101, 100, 32, 119, 105, 116, 104, 32]).1.length := rfl
  obtain ⟨o1, n1, x1, ook, hPP, _⟩ := parseOrd_impl ⟨(Lib.cut P.data.toList [32, 99, 104, 97, 114, 103, 101, 100, 32, 119, 105, 116, 104, 32]).1.toArray⟩ (by omega)
  have cP := fun W => specOParse_same _ (by omega) hPP W
  have cC := fun W => l6Cut_any P ⟨#[32, 99, 104, 97, 114, 103, 101, 100, 32, 119, 105, 116, 104, 32]⟩ hsP (by decide) (by decide) W
  rw [show (⟨#[32, 99, 104, 97, 114, 103, 101, 100, 32, 119, 105, 116, 104, 32]⟩ : ByteArray).data.toList = [32, 99, 104, 97, 114, 103, 101, 100, 32, 119, 105, 116, 104, 32] by rfl, hch] at cC
  rw [← hP'] at cAb
  obtain ⟨r, hr⟩ : ∃ r, aOkB d1 l1 f1 s1 o1 n1 x1 0 0 0 0 0 0 0 0 = r := ⟨_, rfl⟩
  obtain ⟨v, hv⟩ : ∃ v, (ook && (r && decide (armsN d1 l1 f1 s1 o1 n1 x1 0 0 0 0 0 0 0 0 = z))) = v := ⟨_, rfl⟩
  have hw := fun w => l6P_full_000 z _ _ _ _ P _ _ _ _ d1 l1 f1 s1 gc gk ga gt o1 n1 x1 ook r v w hz cC0 cF cG cB cAb cC cP (fun W => l5Good_any d1 l1 f1 s1 o1 n1 x1 0 0 0 0 0 0 0 0 W r hr) (fun e W => l6Text_any d1 l1 f1 s1 o1 n1 x1 0 0 0 0 0 0 0 0 W (hr.trans e)) hv
  cases ok
  · cases v
    · exact ⟨0, 0, 0, 0, 0, 0, 0, 0, 0, 0, 0, 0, 0, 0, 0, (fun e => nomatch e), hw⟩
    · exfalso
      simp only [Bool.and_eq_true, decide_eq_true_eq] at hv
      have q := aAns_true h (hr.trans hv.2.1) hv.2.2
      cases q.1
  · rcases h with ⟨_, g0, e0⟩ | ⟨h0, _⟩
    · have q := third_eq hR hPF hPG hfl g0 e0
      obtain ⟨q0, ho, hn, hx, hg, hg', hX, hY⟩ := q
      rw [if_neg (by rw [hhb]; decide)] at hX
      have ef : P.data.toList = frontL o n x c k a t := by rw [hPl, hX]
      rw [← ef] at hY
      have qp := ord_one hPP ho hn hx (by rw [hY])
      have fc : (!gNoB c k a t) = false := by rw [← hch, hY]
      have zo := gNo_zero4 (show gNoB c k a t = true by simpa using fc)
      have fa : (!gNoB c' k' a' t') = false := by rw [← hha, hX]
      have za := gNo_zero4 (show gNoB c' k' a' t' = true by simpa using fa)
      have hE : d1 = d ∧ l1 = l ∧ f1 = f ∧ s1 = s ∧ o1 = o ∧ n1 = n ∧ x1 = x ∧ 0 = c ∧ 0 = k ∧ 0 = a ∧ 0 = t ∧ 0 = c' ∧ 0 = k' ∧ 0 = a' ∧ 0 = t' := ⟨q0.1, q0.2.1, q0.2.2.1, q0.2.2.2, qp.2.1, qp.2.2.1, qp.2.2.2, zo.1.symm, zo.2.1.symm, zo.2.2.1.symm, zo.2.2.2.symm, za.1.symm, za.2.1.symm, za.2.2.1.symm, za.2.2.2.symm⟩
      have hr1 : r = true := by
        obtain ⟨rfl, rfl, rfl, rfl, rfl, rfl, rfl, rfl, rfl, rfl, rfl, rfl, rfl, rfl, rfl⟩ := hE
        exact hr.symm.trans g0
      have ht1 : armsN d1 l1 f1 s1 o1 n1 x1 0 0 0 0 0 0 0 0 = z := by
        obtain ⟨rfl, rfl, rfl, rfl, rfl, rfl, rfl, rfl, rfl, rfl, rfl, rfl, rfl, rfl, rfl⟩ := hE
        exact e0
      have hv1 : v = true := by
        rw [← hv, hr1, qp.1, decide_eq_true ht1]
        rfl
      subst hv1
      exact ⟨d1, l1, f1, s1, o1, n1, x1, 0, 0, 0, 0, 0, 0, 0, 0, fun _ => hE, hw⟩
    · cases h0
theorem l6_third_001 {z : ByteArray} {d l f s o n x c k a t c' k' a' t' : Int} {ok : Bool} (h : AAns z d l f s o n x c k a t c' k' a' t' ok) (hzz : z.size ≤ 1048576) (hz : ¬ (240 : Int) < (z.size : Int)) {d1 l1 f1 s1 gc gk ga gt : Int} {R F : ByteArray} (hF' : F = ⟨(Lib.cut z.data.toList [44, 32]).1.toArray⟩) (hR' : R = ⟨(Lib.cut z.data.toList [44, 32]).2.1.toArray⟩)
    (hPF : PAns F d1 l1 f1 s1 true) (hPG : GAns R gc gk ga gt false) (hfl : (Lib.cut z.data.toList [44, 32]).2.2 = true)
    (cC0 : ∀ W, Calls Tryd.prog 113 #[.string z, .string ⟨#[44, 32]⟩] W fun e w' => e = .returned (.tuple #[.string F, .string R, .bool true]) ∧ ∃ q, w' = W.drewN q)
    (cF : ∀ W, Calls Tryd.prog 114 #[.string F] W (AnsF W d1 l1 f1 s1 true)) (cG : ∀ W, Calls Tryd.prog 115 #[.string R] W (AnsF W gc gk ga gt false))
    (hhb : (Lib.cut R.data.toList betweenL).2.2 = false) (hha : (Lib.cut R.data.toList aboveL).2.2 = false) (hch : (Lib.cut (Lib.cut R.data.toList aboveL).1 [32, 99, 104, 97, 114, 103, 101, 100, 32, 119, 105, 116, 104, 32]).2.2 = true) : ∃ (u0 u1 u2 u3 u4 u5 u6 u7 u8 u9 u10 u11 u12 u13 u14 : Int), (ok = true → u0 = d ∧ u1 = l ∧ u2 = f ∧ u3 = s ∧ u4 = o ∧ u5 = n ∧ u6 = x ∧ u7 = c ∧ u8 = k ∧ u9 = a ∧ u10 = t ∧ u11 = c' ∧ u12 = k' ∧ u13 = a' ∧ u14 = t') ∧ ∀ w, Calls Tryd.prog 73 #[.string z] w (AnsA w u0 u1 u2 u3 u4 u5 u6 u7 u8 u9 u10 u11 u12 u13 u14 ok) := by
  have zl : z.data.toList.length = z.size := rfl
  have hl := cut_len z.data.toList [44, 32]
  have hR : R.data.toList = (Lib.cut z.data.toList [44, 32]).2.1 := by rw [hR']
  rw [hF'] at hPF
  have rl : R.data.toList.length = R.size := rfl
  have hsR : R.size ≤ 1048576 := by rw [← rl, hR]; omega
  have cB := fun W => l6Cut_any R ⟨#[32, 98, 101, 116, 119, 101, 101, 110, 32]⟩ hsR (by decide) (by decide) W
  rw [show (⟨#[32, 98, 101, 116, 119, 101, 101, 110, 32]⟩ : ByteArray).data.toList = betweenL by rfl, hhb] at cB
  have cAb := fun W => l6Cut_any R ⟨#[32, 97, 98, 111, 118, 101, 32]⟩ hsR (by decide) (by decide) W
  rw [show (⟨#[32, 97, 98, 111, 118, 101, 32]⟩ : ByteArray).data.toList = aboveL by rfl, hha] at cAb
  obtain ⟨P, hP'⟩ : ∃ P : ByteArray, P = ⟨(Lib.cut R.data.toList aboveL).1.toArray⟩ := ⟨_, rfl⟩
  have hPl : P.data.toList = (Lib.cut R.data.toList aboveL).1 := by rw [hP']
  rw [← hPl] at hch
  have pl : P.data.toList.length = P.size := rfl
  have hl2 := cut_len R.data.toList aboveL
  have hsP : P.size ≤ 1048576 := by rw [← pl, hPl]; omega
  have hl3 := cut_len P.data.toList [32, 99, 104, 97, 114, 103, 101, 100, 32, 119, 105, 116, 104, 32]
  have y1 : (⟨(Lib.cut P.data.toList [32, 99, 104, 97, 114, 103, 101, 100, 32, 119, 105, 116, 104, 32]).1.toArray⟩ : ByteArray).size = (Lib.cut P.data.toList [32, 99, 104, 97, 114, 103, 101, 100, 32, 119, 105, 116, 104, 32]).1.length := rfl
  obtain ⟨o1, n1, x1, ook, hPP, _⟩ := parseOrd_impl ⟨(Lib.cut P.data.toList [32, 99, 104, 97, 114, 103, 101, 100, 32, 119, 105, 116, 104, 32]).1.toArray⟩ (by omega)
  have cP := fun W => specOParse_same _ (by omega) hPP W
  have y2 : (⟨(Lib.cut P.data.toList [32, 99, 104, 97, 114, 103, 101, 100, 32, 119, 105, 116, 104, 32]).2.1.toArray⟩ : ByteArray).size = (Lib.cut P.data.toList [32, 99, 104, 97, 114, 103, 101, 100, 32, 119, 105, 116, 104, 32]).2.1.length := rfl
  obtain ⟨p, k2, a2, t2, g1, hPO, _⟩ := parseGroup_impl ⟨(Lib.cut P.data.toList [32, 99, 104, 97, 114, 103, 101, 100, 32, 119, 105, 116, 104, 32]).2.1.toArray⟩ (by omega)
  have cO := fun W => l4Parse_same _ (by omega) hPO W
  have cC := fun W => l6Cut_any P ⟨#[32, 99, 104, 97, 114, 103, 101, 100, 32, 119, 105, 116, 104, 32]⟩ hsP (by decide) (by decide) W
  rw [show (⟨#[32, 99, 104, 97, 114, 103, 101, 100, 32, 119, 105, 116, 104, 32]⟩ : ByteArray).data.toList = [32, 99, 104, 97, 114, 103, 101, 100, 32, 119, 105, 116, 104, 32] by rfl, hch] at cC
  rw [← hP'] at cAb
  obtain ⟨r, hr⟩ : ∃ r, aOkB d1 l1 f1 s1 o1 n1 x1 p k2 a2 t2 0 0 0 0 = r := ⟨_, rfl⟩
  obtain ⟨v, hv⟩ : ∃ v, (ook && (g1 && (r && decide (armsN d1 l1 f1 s1 o1 n1 x1 p k2 a2 t2 0 0 0 0 = z)))) = v := ⟨_, rfl⟩
  have hw := fun w => l6P_full_001 z _ _ _ _ P _ _ _ _ d1 l1 f1 s1 gc gk ga gt o1 n1 x1 p k2 a2 t2 ook g1 r v w hz cC0 cF cG cB cAb cC cP cO (fun W => l5Good_any d1 l1 f1 s1 o1 n1 x1 p k2 a2 t2 0 0 0 0 W r hr) (fun e W => l6Text_any d1 l1 f1 s1 o1 n1 x1 p k2 a2 t2 0 0 0 0 W (hr.trans e)) hv
  cases ok
  · cases v
    · exact ⟨0, 0, 0, 0, 0, 0, 0, 0, 0, 0, 0, 0, 0, 0, 0, (fun e => nomatch e), hw⟩
    · exfalso
      simp only [Bool.and_eq_true, decide_eq_true_eq] at hv
      have q := aAns_true h (hr.trans hv.2.2.1) hv.2.2.2
      cases q.1
  · rcases h with ⟨_, g0, e0⟩ | ⟨h0, _⟩
    · have q := third_eq hR hPF hPG hfl g0 e0
      obtain ⟨q0, ho, hn, hx, hg, hg', hX, hY⟩ := q
      rw [if_neg (by rw [hhb]; decide)] at hX
      have ef : P.data.toList = frontL o n x c k a t := by rw [hPl, hX]
      rw [← ef] at hY
      have qp := ord_one hPP ho hn hx (by rw [hY])
      have fc : (!gNoB c k a t) = true := by rw [← hch, hY]
      have qo := group_end hPO hg (by rw [hY])
      have go : g1 = true := qo.2.2.2.2 (by simpa using fc)
      have fa : (!gNoB c' k' a' t') = false := by rw [← hha, hX]
      have za := gNo_zero4 (show gNoB c' k' a' t' = true by simpa using fa)
      have hE : d1 = d ∧ l1 = l ∧ f1 = f ∧ s1 = s ∧ o1 = o ∧ n1 = n ∧ x1 = x ∧ p = c ∧ k2 = k ∧ a2 = a ∧ t2 = t ∧ 0 = c' ∧ 0 = k' ∧ 0 = a' ∧ 0 = t' := ⟨q0.1, q0.2.1, q0.2.2.1, q0.2.2.2, qp.2.1, qp.2.2.1, qp.2.2.2, qo.1, qo.2.1, qo.2.2.1, qo.2.2.2.1, za.1.symm, za.2.1.symm, za.2.2.1.symm, za.2.2.2.symm⟩
      have hr1 : r = true := by
        obtain ⟨rfl, rfl, rfl, rfl, rfl, rfl, rfl, rfl, rfl, rfl, rfl, rfl, rfl, rfl, rfl⟩ := hE
        exact hr.symm.trans g0
      have ht1 : armsN d1 l1 f1 s1 o1 n1 x1 p k2 a2 t2 0 0 0 0 = z := by
        obtain ⟨rfl, rfl, rfl, rfl, rfl, rfl, rfl, rfl, rfl, rfl, rfl, rfl, rfl, rfl, rfl⟩ := hE
        exact e0
      have hv1 : v = true := by
        rw [← hv, hr1, qp.1, go, decide_eq_true ht1]
        rfl
      subst hv1
      exact ⟨d1, l1, f1, s1, o1, n1, x1, p, k2, a2, t2, 0, 0, 0, 0, fun _ => hE, hw⟩
    · cases h0
/-- What the model reads out of a text. -/
theorem l6Parse_same {z : ByteArray} {d l f s o n x c k a t c' k' a' t' : Int} {ok : Bool} (h : AAns z d l f s o n x c k a t c' k' a' t' ok) (hzz : z.size ≤ 1048576) : ∃ (u0 u1 u2 u3 u4 u5 u6 u7 u8 u9 u10 u11 u12 u13 u14 : Int), (ok = true → u0 = d ∧ u1 = l ∧ u2 = f ∧ u3 = s ∧ u4 = o ∧ u5 = n ∧ u6 = x ∧ u7 = c ∧ u8 = k ∧ u9 = a ∧ u10 = t ∧ u11 = c' ∧ u12 = k' ∧ u13 = a' ∧ u14 = t') ∧ ∀ w, Calls Tryd.prog 73 #[.string z] w (AnsA w u0 u1 u2 u3 u4 u5 u6 u7 u8 u9 u10 u11 u12 u13 u14 ok) := by
  by_cases hz : (240 : Int) < (z.size : Int)
  · have h0 : ok = false := by
      rcases h with ⟨_, h1, h2⟩ | ⟨h0, _, _⟩
      · have := arms_size h1
        rw [h2] at this
        omega
      · exact h0
    subst h0
    exact ⟨0, 0, 0, 0, 0, 0, 0, 0, 0, 0, 0, 0, 0, 0, 0, (fun e => nomatch e), fun w => l6P_long z w hz⟩
  · have zl : z.data.toList.length = z.size := rfl
    have hl := cut_len z.data.toList [44, 32]
    have z1 : (⟨(Lib.cut z.data.toList [44, 32]).1.toArray⟩ : ByteArray).size = (Lib.cut z.data.toList [44, 32]).1.length := rfl
    have z2 : (⟨(Lib.cut z.data.toList [44, 32]).2.1.toArray⟩ : ByteArray).size = (Lib.cut z.data.toList [44, 32]).2.1.length := rfl
    obtain ⟨d1, l1, f1, s1, fok, hPF, _⟩ := parseField_impl ⟨(Lib.cut z.data.toList [44, 32]).1.toArray⟩ (by omega)
    have cF := fun W => l3Parse_same _ (by omega) hPF W
    have cC0 := fun W => l6Cut_any z ⟨#[44, 32]⟩ hzz (by decide) (by decide) W
    rw [show (⟨#[44, 32]⟩ : ByteArray).data.toList = [44, 32] by rfl] at cC0
    obtain ⟨m, hfl⟩ : ∃ m, (Lib.cut z.data.toList [44, 32]).2.2 = m := ⟨_, rfl⟩
    rw [hfl] at cC0
    cases fok
    · have h0 : ok = false := by
        rcases h with ⟨_, h1, h2⟩ | ⟨h0, _, _⟩
        · have hp := arms_parts h1 h2
          obtain ⟨hf, hp⟩ := hp
          have hc : (Lib.cut z.data.toList [44, 32]).1 = fL d l f s := by rcases hp with hp | hp | hp <;> rw [hp.2]
          have q := field_one hPF hf (by rw [hc])
          cases q.1
        · exact h0
      subst h0
      exact ⟨0, 0, 0, 0, 0, 0, 0, 0, 0, 0, 0, 0, 0, 0, 0, (fun e => nomatch e), fun w => l6P_nofield z _ _ _ _ _ _ m w hz cC0 cF⟩
    · have hFok : FOk d1 l1 f1 s1 := by
        rcases hPF with ⟨_, h1, _⟩ | ⟨h0, _⟩
        · exact h1
        · cases h0
      have hft : fN d1 l1 f1 s1 = ⟨(Lib.cut z.data.toList [44, 32]).1.toArray⟩ := by
        rcases hPF with ⟨_, _, h1⟩ | ⟨h0, _⟩
        · exact h1
        · cases h0
      cases m
      · have q := aAns_true h (aOk_field hFok) (by
          rw [cut_self hfl] at hft
          have e : armsN d1 l1 f1 s1 0 0 0 0 0 0 0 0 0 0 0 = fN d1 l1 f1 s1 := by unfold armsN; rfl
          rw [e, hft])
        obtain ⟨rfl, q⟩ := q
        exact ⟨d1, l1, f1, s1, 0, 0, 0, 0, 0, 0, 0, 0, 0, 0, 0, fun _ => q, fun w => l6P_field z _ _ _ _ _ _ w hz cC0 cF⟩
      · obtain ⟨gc, gk, ga, gt, gok, hPG, _⟩ := parseGroup_impl ⟨(Lib.cut z.data.toList [44, 32]).2.1.toArray⟩ (by omega)
        have cG := fun W => l4Parse_same _ (by omega) hPG W
        cases gok
        · obtain ⟨F, hF'⟩ : ∃ F : ByteArray, F = ⟨(Lib.cut z.data.toList [44, 32]).1.toArray⟩ := ⟨_, rfl⟩
          obtain ⟨R, hR'⟩ : ∃ R : ByteArray, R = ⟨(Lib.cut z.data.toList [44, 32]).2.1.toArray⟩ := ⟨_, rfl⟩
          rw [← hF'] at hPF cC0 cF
          rw [← hR'] at hPG cC0 cG
          obtain ⟨hb, hhb⟩ : ∃ x, (Lib.cut R.data.toList betweenL).2.2 = x := ⟨_, rfl⟩
          cases hb
          · obtain ⟨ch, hch⟩ : ∃ x, (Lib.cut (Lib.cut R.data.toList aboveL).1 [32, 99, 104, 97, 114, 103, 101, 100, 32, 119, 105, 116, 104, 32]).2.2 = x := ⟨_, rfl⟩
            obtain ⟨ha, hha⟩ : ∃ x, (Lib.cut R.data.toList aboveL).2.2 = x := ⟨_, rfl⟩
            cases ha <;> cases ch
            · exact l6_third_000 h hzz hz hF' hR' hPF hPG hfl cC0 cF cG hhb hha hch
            · exact l6_third_001 h hzz hz hF' hR' hPF hPG hfl cC0 cF cG hhb hha hch
            · exact l6_third_010 h hzz hz hF' hR' hPF hPG hfl cC0 cF cG hhb hha hch
            · exact l6_third_011 h hzz hz hF' hR' hPF hPG hfl cC0 cF cG hhb hha hch
          · obtain ⟨ch, hch⟩ : ∃ x, (Lib.cut (Lib.cut R.data.toList betweenL).1 [32, 99, 104, 97, 114, 103, 101, 100, 32, 119, 105, 116, 104, 32]).2.2 = x := ⟨_, rfl⟩
            cases ch
            · exact l6_third_100 h hzz hz hF' hR' hPF hPG hfl cC0 cF cG hhb hch
            · exact l6_third_101 h hzz hz hF' hR' hPF hPG hfl cC0 cF cG hhb hch
        · have hGok : gOkB gc gk ga gt = true := by
            rcases hPG with ⟨_, h1, _⟩ | ⟨h0, _⟩
            · exact h1
            · cases h0
          obtain ⟨v, hv⟩ : ∃ v, decide (armsN d1 l1 f1 s1 0 0 0 0 0 0 0 gc gk ga gt = z) = v := ⟨_, rfl⟩
          have hw := fun w => l6P_group z _ _ _ d1 l1 f1 s1 gc gk ga gt w hz cC0 cF cG (fun W => l6Text_any d1 l1 f1 s1 0 0 0 0 0 0 0 gc gk ga gt W (aOk_group hFok hGok)) v hv
          cases v
          · have h0 : ok = false := by
              rcases h with ⟨_, g, e⟩ | ⟨h0, _, _⟩
              · obtain ⟨hf, h1 | h1 | h1⟩ := arms_parts g e
                · exact absurd (show true = false from hfl.symm.trans (by rw [h1.2])) (by decide)
                · obtain ⟨⟨⟨y1, y2, y3⟩, ⟨y4, y5, y6, y7⟩, hg⟩, hq⟩ := h1
                  have q := field_one hPF hf (by rw [hq])
                  have q2 := group_one hPG hg (by rw [hq])
                  obtain ⟨_, rfl, rfl, rfl, rfl⟩ := q
                  obtain ⟨_, rfl, rfl, rfl, rfl⟩ := q2
                  subst y1; subst y2; subst y3; subst y4; subst y5; subst y6; subst y7
                  exact absurd e (of_decide_eq_false hv)
                · obtain ⟨⟨ho, hn, hx, hg, hg'⟩, hq⟩ := h1
                  rcases hPG with ⟨_, k1, k2⟩ | ⟨k0, _, _⟩
                  · have e9 := congrArg (fun s : ByteArray => s.data.toList) k2
                    rw [hq] at e9
                    unfold frontL at e9
                    rw [List.append_assoc] at e9
                    exact absurd e9 (not_group ho hn k1)
                  · cases k0
              · exact h0
            subst h0
            exact ⟨d1, l1, f1, s1, 0, 0, 0, 0, 0, 0, 0, gc, gk, ga, gt, (fun e => nomatch e), hw⟩
          · obtain ⟨rfl, q⟩ := aAns_true h (aOk_group hFok hGok) (of_decide_eq_true hv)
            exact ⟨d1, l1, f1, s1, 0, 0, 0, 0, 0, 0, 0, gc, gk, ga, gt, fun _ => q, hw⟩
set_option maxRecDepth 100000 in
set_option maxHeartbeats 8000000 in
theorem specAParse_same {z : ByteArray} {d l f s o n x c k a t c' k' a' t' : Int} {ok : Bool} (h : AAns z d l f s o n x c k a t c' k' a' t' ok) (hzz : z.size ≤ 1048576) (w : World) : Calls Tryd.prog 26 #[.string z] w (AnsA w d l f s o n x c k a t c' k' a' t' ok) := by
  obtain ⟨u0, u1, u2, u3, u4, u5, u6, u7, u8, u9, u10, u11, u12, u13, u14, hu, cl⟩ := l6Parse_same h hzz
  have CL := Lib.hid cl
  clear cl
  have K0 := Lib.hid (AK.new w [.int .i64 0, .int .i64 0, .int .i64 0, .int .i64 0, .int .i64 0, .int .i64 0, .int .i64 0, .int .i64 0, .int .i64 0, .int .i64 0, .int .i64 0, .int .i64 0, .int .i64 0, .int .i64 0, .int .i64 0])
  cases ok
  · have h0 : d = 0 ∧ l = 0 ∧ f = 0 ∧ s = 0 ∧ o = 0 ∧ n = 0 ∧ x = 0 ∧ c = 0 ∧ k = 0 ∧ a = 0 ∧ t = 0 ∧ c' = 0 ∧ k' = 0 ∧ a' = 0 ∧ t' = 0 := by
      rcases h with ⟨h0, _⟩ | ⟨_, h1, _⟩
      · cases h0
      · exact h1
    obtain ⟨rfl, rfl, rfl, rfl, rfl, rfl, rfl, rfl, rfl, rfl, rfl, rfl, rfl, rfl, rfl⟩ := h0
    clear hu h
    go_enter Tryd.func26, Tryd.ntmps26
    go_wp2_with fail
    refine (CL.out _).mono ?_
    rintro e w2 ⟨rfl, h2⟩
    have x3 := BoxF.new w2 [.int .i64 u0, .int .i64 u1, .int .i64 u2, .int .i64 u3, .int .i64 u4, .int .i64 u5, .int .i64 u6, .int .i64 u7, .int .i64 u8, .int .i64 u9, .int .i64 u10, .int .i64 u11, .int .i64 u12, .int .i64 u13, .int .i64 u14] 37
    have K3 := Lib.hid (((K0.out.below h2).below ((Below.refl _ w2).alloc (Nat.le_refl _) (.cells #[.int .i64 u0, .int .i64 u1, .int .i64 u2, .int .i64 u3, .int .i64 u4, .int .i64 u5, .int .i64 u6, .int .i64 u7, .int .i64 u8, .int .i64 u9, .int .i64 u10, .int .i64 u11, .int .i64 u12, .int .i64 u13, .int .i64 u14] 37 (0, 0)))))
    clear K0 CL h2
    have t9 := K3.out.1.ther (n := 15) rfl
    go_wp2_with (with_reducible refine isList ?_; (set_option maxRecDepth 100000 in refine st15 2 13 w.heap.size [.int .i64 0, .int .i64 0, .int .i64 0, .int .i64 0, .int .i64 0, .int .i64 0, .int .i64 0, .int .i64 0, .int .i64 0, .int .i64 0, .int .i64 0, .int .i64 0, .int .i64 0, .int .i64 0, .int .i64 0] rfl rfl rfl rfl rfl ?_ ?_ ?_); exact t9; simp [Value.oneCell'])
    have g9 := setc_grownC (w2.alloc (.cells #[.int .i64 u0, .int .i64 u1, .int .i64 u2, .int .i64 u3, .int .i64 u4, .int .i64 u5, .int .i64 u6, .int .i64 u7, .int .i64 u8, .int .i64 u9, .int .i64 u10, .int .i64 u11, .int .i64 u12, .int .i64 u13, .int .i64 u14] 37 (0, 0))) w.heap.size [.int .i64 0, .int .i64 0, .int .i64 0, .int .i64 0, .int .i64 0, .int .i64 0, .int .i64 0, .int .i64 0, .int .i64 0, .int .i64 0, .int .i64 0, .int .i64 0, .int .i64 0, .int .i64 0, .int .i64 0]
    have BE := Lib.hid (K3.out.2.grown g9 K3.out.2.size (fun q hq => by cases hq; exact Nat.le_refl _))
    have XR : BoxF ((w2.alloc (.cells #[.int .i64 u0, .int .i64 u1, .int .i64 u2, .int .i64 u3, .int .i64 u4, .int .i64 u5, .int .i64 u6, .int .i64 u7, .int .i64 u8, .int .i64 u9, .int .i64 u10, .int .i64 u11, .int .i64 u12, .int .i64 u13, .int .i64 u14] 37 (0, 0))).setCells w.heap.size 0 [.int .i64 0, .int .i64 0, .int .i64 0, .int .i64 0, .int .i64 0, .int .i64 0, .int .i64 0, .int .i64 0, .int .i64 0, .int .i64 0, .int .i64 0, .int .i64 0, .int .i64 0, .int .i64 0, .int .i64 0]) w.heap.size [.int .i64 0, .int .i64 0, .int .i64 0, .int .i64 0, .int .i64 0, .int .i64 0, .int .i64 0, .int .i64 0, .int .i64 0, .int .i64 0, .int .i64 0, .int .i64 0, .int .i64 0, .int .i64 0, .int .i64 0] 37 := BoxF.setAll (vs := [.int .i64 0, .int .i64 0, .int .i64 0, .int .i64 0, .int .i64 0, .int .i64 0, .int .i64 0, .int .i64 0, .int .i64 0, .int .i64 0, .int .i64 0, .int .i64 0, .int .i64 0, .int .i64 0, .int .i64 0]) K3.out.1
    generalize (w2.alloc (.cells #[.int .i64 u0, .int .i64 u1, .int .i64 u2, .int .i64 u3, .int .i64 u4, .int .i64 u5, .int .i64 u6, .int .i64 u7, .int .i64 u8, .int .i64 u9, .int .i64 u10, .int .i64 u11, .int .i64 u12, .int .i64 u13, .int .i64 u14] 37 (0, 0))).setCells w.heap.size 0 [.int .i64 0, .int .i64 0, .int .i64 0, .int .i64 0, .int .i64 0, .int .i64 0, .int .i64 0, .int .i64 0, .int .i64 0, .int .i64 0, .int .i64 0, .int .i64 0, .int .i64 0, .int .i64 0, .int .i64 0] = W9 at *
    obtain ⟨z0, z1, z2, z3, z4, z5, z6, z7, z8, z9, z10, z11, z12, z13, z14, zf⟩ := XR.fifteen
    exact bodyPost_ret (v := .tuple #[.agg #[.int .i64 0, .int .i64 0, .int .i64 0, .int .i64 0, .int .i64 0, .int .i64 0, .int .i64 0, .int .i64 0, .int .i64 0, .int .i64 0, .int .i64 0, .int .i64 0, .int .i64 0, .int .i64 0, .int .i64 0], .bool false]) (by simp [results, Tryd.results26, go_sem, z0, z1, z2, z3, z4, z5, z6, z7, z8, z9, z10, z11, z12, z13, z14]) rfl ⟨rfl, BE.out⟩
  · obtain ⟨rfl, rfl, rfl, rfl, rfl, rfl, rfl, rfl, rfl, rfl, rfl, rfl, rfl, rfl, rfl⟩ := hu rfl
    clear h
    go_enter Tryd.func26, Tryd.ntmps26
    go_wp2_with fail
    refine (CL.out _).mono ?_
    rintro e w2 ⟨rfl, h2⟩
    have x3 := BoxF.new w2 [.int .i64 u0, .int .i64 u1, .int .i64 u2, .int .i64 u3, .int .i64 u4, .int .i64 u5, .int .i64 u6, .int .i64 u7, .int .i64 u8, .int .i64 u9, .int .i64 u10, .int .i64 u11, .int .i64 u12, .int .i64 u13, .int .i64 u14] 37
    have K3 := Lib.hid (((K0.out.below h2).below ((Below.refl _ w2).alloc (Nat.le_refl _) (.cells #[.int .i64 u0, .int .i64 u1, .int .i64 u2, .int .i64 u3, .int .i64 u4, .int .i64 u5, .int .i64 u6, .int .i64 u7, .int .i64 u8, .int .i64 u9, .int .i64 u10, .int .i64 u11, .int .i64 u12, .int .i64 u13, .int .i64 u14] 37 (0, 0)))))
    clear K0 CL h2
    have r9 := x3.range
    have t9 := K3.out.1.ther (n := 15) rfl
    go_wp2_with (first | (with_reducible refine isList ?_; refine ld15 4 w2.heap.size [.int .i64 u0, .int .i64 u1, .int .i64 u2, .int .i64 u3, .int .i64 u4, .int .i64 u5, .int .i64 u6, .int .i64 u7, .int .i64 u8, .int .i64 u9, .int .i64 u10, .int .i64 u11, .int .i64 u12, .int .i64 u13, .int .i64 u14] rfl rfl rfl rfl ?_ ?_; exact r9) | (with_reducible refine isList ?_; (set_option maxRecDepth 100000 in refine st15 2 14 w.heap.size [.int .i64 u0, .int .i64 u1, .int .i64 u2, .int .i64 u3, .int .i64 u4, .int .i64 u5, .int .i64 u6, .int .i64 u7, .int .i64 u8, .int .i64 u9, .int .i64 u10, .int .i64 u11, .int .i64 u12, .int .i64 u13, .int .i64 u14] rfl rfl rfl rfl rfl ?_ ?_ ?_); exact t9; simp [Value.oneCell']))
    have g9 := setc_grownC (w2.alloc (.cells #[.int .i64 u0, .int .i64 u1, .int .i64 u2, .int .i64 u3, .int .i64 u4, .int .i64 u5, .int .i64 u6, .int .i64 u7, .int .i64 u8, .int .i64 u9, .int .i64 u10, .int .i64 u11, .int .i64 u12, .int .i64 u13, .int .i64 u14] 37 (0, 0))) w.heap.size [.int .i64 u0, .int .i64 u1, .int .i64 u2, .int .i64 u3, .int .i64 u4, .int .i64 u5, .int .i64 u6, .int .i64 u7, .int .i64 u8, .int .i64 u9, .int .i64 u10, .int .i64 u11, .int .i64 u12, .int .i64 u13, .int .i64 u14]
    have BE := Lib.hid (K3.out.2.grown g9 K3.out.2.size (fun q hq => by cases hq; exact Nat.le_refl _))
    have XR : BoxF ((w2.alloc (.cells #[.int .i64 u0, .int .i64 u1, .int .i64 u2, .int .i64 u3, .int .i64 u4, .int .i64 u5, .int .i64 u6, .int .i64 u7, .int .i64 u8, .int .i64 u9, .int .i64 u10, .int .i64 u11, .int .i64 u12, .int .i64 u13, .int .i64 u14] 37 (0, 0))).setCells w.heap.size 0 [.int .i64 u0, .int .i64 u1, .int .i64 u2, .int .i64 u3, .int .i64 u4, .int .i64 u5, .int .i64 u6, .int .i64 u7, .int .i64 u8, .int .i64 u9, .int .i64 u10, .int .i64 u11, .int .i64 u12, .int .i64 u13, .int .i64 u14]) w.heap.size [.int .i64 u0, .int .i64 u1, .int .i64 u2, .int .i64 u3, .int .i64 u4, .int .i64 u5, .int .i64 u6, .int .i64 u7, .int .i64 u8, .int .i64 u9, .int .i64 u10, .int .i64 u11, .int .i64 u12, .int .i64 u13, .int .i64 u14] 37 := BoxF.setAll (vs := [.int .i64 u0, .int .i64 u1, .int .i64 u2, .int .i64 u3, .int .i64 u4, .int .i64 u5, .int .i64 u6, .int .i64 u7, .int .i64 u8, .int .i64 u9, .int .i64 u10, .int .i64 u11, .int .i64 u12, .int .i64 u13, .int .i64 u14]) K3.out.1
    generalize (w2.alloc (.cells #[.int .i64 u0, .int .i64 u1, .int .i64 u2, .int .i64 u3, .int .i64 u4, .int .i64 u5, .int .i64 u6, .int .i64 u7, .int .i64 u8, .int .i64 u9, .int .i64 u10, .int .i64 u11, .int .i64 u12, .int .i64 u13, .int .i64 u14] 37 (0, 0))).setCells w.heap.size 0 [.int .i64 u0, .int .i64 u1, .int .i64 u2, .int .i64 u3, .int .i64 u4, .int .i64 u5, .int .i64 u6, .int .i64 u7, .int .i64 u8, .int .i64 u9, .int .i64 u10, .int .i64 u11, .int .i64 u12, .int .i64 u13, .int .i64 u14] = W9 at *
    obtain ⟨z0, z1, z2, z3, z4, z5, z6, z7, z8, z9, z10, z11, z12, z13, z14, zf⟩ := XR.fifteen
    exact bodyPost_ret (v := .tuple #[.agg #[.int .i64 u0, .int .i64 u1, .int .i64 u2, .int .i64 u3, .int .i64 u4, .int .i64 u5, .int .i64 u6, .int .i64 u7, .int .i64 u8, .int .i64 u9, .int .i64 u10, .int .i64 u11, .int .i64 u12, .int .i64 u13, .int .i64 u14], .bool true]) (by simp [results, Tryd.results26, go_sem, z0, z1, z2, z3, z4, z5, z6, z7, z8, z9, z10, z11, z12, z13, z14]) rfl ⟨rfl, BE.out⟩
end Go.Proofs.YtgeidnnjljpdkaaDoor
