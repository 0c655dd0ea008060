/- Several small texts in one: LawIn, AOk, PartsMath, DrawWF, DrawWO, DrawSimp. -/
import Derived.Test.YtpcghkciibbmgaaDoorDraw
import Derived.Test.YtpcghkciibbmgaaDoorIntRows
import Derived.Test.YtpcghkciibbmgaaDoorLists
import Derived.Test.YtpcghkciibbmgaaDoorArms2
import Derived.Test.YtpcghkciibbmgaaDoorRWithF
import Derived.Test.YtpcghkciibbmgaaDoorArmsF
import Derived.Test.YtpcghkciibbmgaaDoorRWithO
import Derived.Test.YtpcghkciibbmgaaDoorArmsO
import Derived.Test.YtpcghkciibbmgaaDoorRWithG
import Derived.Test.YtpcghkciibbmgaaDoorEqArms
import Derived.Test.YtpcghkciibbmgaaDoorDrawRep
import Derived.Test.YtpcghkciibbmgaaDoorDrawArms2
import Derived.Test.YtpcghkciibbmgaaDoorMergeA
import Derived.OwnWalk
import Derived.Laws.OwnMore
import Derived.Deep.LoopGhost
import Derived.Maps.AppendAt
namespace Go.Proofs.YtpcghkciibbmgaaDoor
open Go.RowKit

theorem rdb_of {w : World} {b o n : Nat} {spot : Option Nat} {f : Nat → Int} (hc : ∀ k, k < n → w.cell? ((⟨b, o, spot⟩ : Addr).add k) = some (.int .u8 (f k))) (hf : ∀ k, k < n → IntKind.u8.min ≤ f k ∧ f k ≤ IntKind.u8.max) : RdB w w.heap.size (some ⟨b, o, spot⟩) n := by
  intro hn
  have h0 := hc 0 hn
  have hspot : spot = none := by simpa [Addr.add] using World.cell?_spot h0
  subst hspot
  have h1 : ∀ k, k < n → w.cell? ⟨b, o + k, none⟩ = some (.int .u8 (f k)) := fun k hk => by
    have h1 := hc k hk
    have e : (⟨b, o, none⟩ : Addr).add k = ⟨b, o + k, none⟩ := by unfold Addr.add; split <;> simp_all
    rw [e] at h1
    exact h1
  exact ⟨b, o, rfl, cellI_lt (h1 0 hn), fun k hk => ⟨f k, h1 k hk, (hf k hk).1, (hf k hk).2⟩⟩

theorem vBig_any (a : Option Addr) (n cap : Nat) (w : World) :
    Calls Tryd.prog 5 #[.slice a n cap] w fun e w' => e = .returned (.bool (decide ((65536 : Int) < (n : Int)))) ∧ w = w' := by
  go_enter Tryd.func5, Tryd.ntmps5
  go_wp2_with fail
  go_ret
  exact ⟨rfl, rfl⟩

end Go.Proofs.YtpcghkciibbmgaaDoor
namespace Go.Proofs.YtpcghkciibbmgaaDoor
open Go.RowKit

theorem aOk_out {d l f s o n x c k a t c' k' a' t' : Int} (h : aOkB d l f s o n x c k a t c' k' a' t' = true) : FOk d l f s ∧ (gNoB c' k' a' t' = true ∨ (gNoB c' k' a' t' = false ∧ gOkB c' k' a' t' = true)) ∧ ((o = 0 ∧ n = 0 ∧ x = 0 ∧ gNoB c k a t = true) ∨ ((1 ≤ o ∧ o ≤ 7) ∧ (0 ≤ n ∧ n ≤ 4) ∧ (1 ≤ x ∧ x ≤ 9) ∧ (gNoB c k a t = true ∨ (gNoB c k a t = false ∧ gOkB c k a t = true)))) := by
  unfold aOkB at h
  simp only [Bool.and_eq_true, decide_eq_true_eq, Bool.or_eq_true] at h
  obtain ⟨h1, h2, h3, h4⟩ := h
  refine ⟨h1, ?_, ?_⟩
  · cases e : gNoB c' k' a' t'
    · rw [e] at h3; exact .inr ⟨rfl, by simpa using h3⟩
    · exact .inl rfl
  · by_cases h0 : o = 0
    · rw [if_pos h0] at h4
      simp only [Bool.and_eq_true, beq_iff_eq] at h4
      exact .inl ⟨h0, h4.1, h4.2.1, h4.2.2⟩
    · rw [if_neg h0] at h4
      simp only [Bool.and_eq_true, Bool.or_eq_true, decide_eq_true_eq] at h4
      refine .inr ⟨by omega, h4.1, h4.2.1, ?_⟩
      cases e : gNoB c k a t
      · rw [e] at h4; exact .inr ⟨rfl, by simpa using h4.2.2⟩
      · exact .inl rfl
theorem aOk_none {d l f s o n x c k a t c' k' a' t' : Int} (h : aOkB d l f s o n x c k a t c' k' a' t' = true) (h0 : o ≠ 0) : aOkB d l f s o n x 0 0 0 0 c' k' a' t' = true := by
  unfold aOkB at *
  rw [if_neg h0] at *
  simp only [Bool.and_eq_true, decide_eq_true_eq] at *
  exact ⟨h.1, h.2.1, h.2.2.1, h.2.2.2.1, h.2.2.2.2.1, by decide⟩
theorem aOk_zero : aOkB 0 0 0 0 0 0 0 0 0 0 0 0 0 0 0 = false := by decide
theorem gNo_zero4 {c k a t : Int} (h : gNoB c k a t = true) : c = 0 ∧ k = 0 ∧ a = 0 ∧ t = 0 := by simpa [gNoB] using h
end Go.Proofs.YtpcghkciibbmgaaDoor
namespace Go.Proofs.YtpcghkciibbmgaaDoor
open Go.RowKit

theorem partsF (d l f s o n x c k a t c' k' a' t' f0 f1 f2 f3 : Int) (w : World) (hA : AttsLie w) :
    ∃ (u0 u1 u2 u3 u4 u5 u6 u7 u8 u9 u10 u11 u12 u13 u14 z0 z1 z2 z3 z4 z5 z6 z7 z8 z9 z10 z11 z12 z13 z14 : Int) (ok : Bool), (∀ W, Calls Tryd.prog 16 #[.agg #[.int .i64 d, .int .i64 l, .int .i64 f, .int .i64 s, .int .i64 o, .int .i64 n, .int .i64 x, .int .i64 c, .int .i64 k, .int .i64 a, .int .i64 t, .int .i64 c', .int .i64 k', .int .i64 a', .int .i64 t'], .agg #[.int .i64 f0, .int .i64 f1, .int .i64 f2, .int .i64 f3]] W (AnsA W u0 u1 u2 u3 u4 u5 u6 u7 u8 u9 u10 u11 u12 u13 u14 ok)) ∧ (∀ W, Below w.heap.size w W → Calls Tryd.prog 15 #[.agg #[.int .i64 d, .int .i64 l, .int .i64 f, .int .i64 s, .int .i64 o, .int .i64 n, .int .i64 x, .int .i64 c, .int .i64 k, .int .i64 a, .int .i64 t, .int .i64 c', .int .i64 k', .int .i64 a', .int .i64 t'], .agg #[.int .i64 f0, .int .i64 f1, .int .i64 f2, .int .i64 f3]] W (AnsA W u0 u1 u2 u3 u4 u5 u6 u7 u8 u9 u10 u11 u12 u13 u14 ok)) ∧ (∀ W, Below w.heap.size w W → Calls Tryd.prog 15 #[.agg #[.int .i64 u0, .int .i64 u1, .int .i64 u2, .int .i64 u3, .int .i64 u4, .int .i64 u5, .int .i64 u6, .int .i64 u7, .int .i64 u8, .int .i64 u9, .int .i64 u10, .int .i64 u11, .int .i64 u12, .int .i64 u13, .int .i64 u14], .agg #[.int .i64 d, .int .i64 l, .int .i64 f, .int .i64 s]] W (AnsA W z0 z1 z2 z3 z4 z5 z6 z7 z8 z9 z10 z11 z12 z13 z14 ok)) ∧ (ok = true → ∀ W, (binOp .neq 29 (.agg #[.int .i64 z0, .int .i64 z1, .int .i64 z2, .int .i64 z3, .int .i64 z4, .int .i64 z5, .int .i64 z6, .int .i64 z7, .int .i64 z8, .int .i64 z9, .int .i64 z10, .int .i64 z11, .int .i64 z12, .int .i64 z13, .int .i64 z14]) (.agg #[.int .i64 d, .int .i64 l, .int .i64 f, .int .i64 s, .int .i64 o, .int .i64 n, .int .i64 x, .int .i64 c, .int .i64 k, .int .i64 a, .int .i64 t, .int .i64 c', .int .i64 k', .int .i64 a', .int .i64 t'])).run Tryd.prog W = .ok (.bool false) W) := by
  obtain ⟨r, hr⟩ : ∃ r, (aOkB d l f s o n x c k a t c' k' a' t' && aOkB f0 f1 f2 f3 o n x c k a t c' k' a' t') = r := ⟨_, rfl⟩
  have q1 := fun W => withField_spec d l f s o n x c k a t c' k' a' t' f0 f1 f2 f3 W r hr
  have q2 := fun W (hb : Below w.heap.size w W) => withField_impl d l f s o n x c k a t c' k' a' t' f0 f1 f2 f3 W r hr (hA.below hb)
  cases r
  · exact ⟨0, 0, 0, 0, 0, 0, 0, 0, 0, 0, 0, 0, 0, 0, 0, 0, 0, 0, 0, 0, 0, 0, 0, 0, 0, 0, 0, 0, 0, 0, false, fun W => q1 W, fun W hb => q2 W hb, fun W hb => withField_impl 0 0 0 0 0 0 0 0 0 0 0 0 0 0 0 d l f s W false (by rw [aOk_zero]; rfl) (hA.below hb), fun h => Bool.noConfusion h⟩
  · rw [Bool.and_eq_true] at hr
    exact ⟨f0, f1, f2, f3, o, n, x, c, k, a, t, c', k', a', t', d, l, f, s, o, n, x, c, k, a, t, c', k', a', t', true, fun W => q1 W, fun W hb => q2 W hb, fun W hb => withField_impl f0 f1 f2 f3 o n x c k a t c' k' a' t' d l f s W true (by rw [hr.1, hr.2]; rfl) (hA.below hb), fun _ W => (neArms_run d l f s o n x c k a t c' k' a' t' d l f s o n x c k a t c' k' a' t' W).trans (by simp)⟩
theorem partsO (d l f s o n x c k a t c' k' a' t' o1 n1 x1 : Int) (w : World) (hA : AttsLie w) :
    ∃ (u0 u1 u2 u3 u4 u5 u6 u7 u8 u9 u10 u11 u12 u13 u14 z0 z1 z2 z3 z4 z5 z6 z7 z8 z9 z10 z11 z12 z13 z14 : Int) (fine : Bool), (∀ W, Calls Tryd.prog 19 #[.agg #[.int .i64 d, .int .i64 l, .int .i64 f, .int .i64 s, .int .i64 o, .int .i64 n, .int .i64 x, .int .i64 c, .int .i64 k, .int .i64 a, .int .i64 t, .int .i64 c', .int .i64 k', .int .i64 a', .int .i64 t'], .int .i64 o1, .int .i64 n1, .int .i64 x1] W (AnsA W u0 u1 u2 u3 u4 u5 u6 u7 u8 u9 u10 u11 u12 u13 u14 fine)) ∧ (∀ W, Below w.heap.size w W → Calls Tryd.prog 18 #[.agg #[.int .i64 d, .int .i64 l, .int .i64 f, .int .i64 s, .int .i64 o, .int .i64 n, .int .i64 x, .int .i64 c, .int .i64 k, .int .i64 a, .int .i64 t, .int .i64 c', .int .i64 k', .int .i64 a', .int .i64 t'], .int .i64 o1, .int .i64 n1, .int .i64 x1] W (AnsA W u0 u1 u2 u3 u4 u5 u6 u7 u8 u9 u10 u11 u12 u13 u14 fine)) ∧ (fine = true → (∀ W, Below w.heap.size w W → Calls Tryd.prog 18 #[.agg #[.int .i64 u0, .int .i64 u1, .int .i64 u2, .int .i64 u3, .int .i64 u4, .int .i64 u5, .int .i64 u6, .int .i64 u7, .int .i64 u8, .int .i64 u9, .int .i64 u10, .int .i64 u11, .int .i64 u12, .int .i64 u13, .int .i64 u14], .int .i64 o, .int .i64 n, .int .i64 x] W (AnsA W z0 z1 z2 z3 z4 z5 z6 z7 z8 z9 z10 z11 z12 z13 z14 true)) ∧ (∀ W, Below w.heap.size w W → Calls Tryd.prog 20 #[.agg #[.int .i64 z0, .int .i64 z1, .int .i64 z2, .int .i64 z3, .int .i64 z4, .int .i64 z5, .int .i64 z6, .int .i64 z7, .int .i64 z8, .int .i64 z9, .int .i64 z10, .int .i64 z11, .int .i64 z12, .int .i64 z13, .int .i64 z14], .agg #[.int .i64 c, .int .i64 k, .int .i64 a, .int .i64 t], .agg #[.int .i64 c', .int .i64 k', .int .i64 a', .int .i64 t']] W (AnsA W d l f s o n x c k a t c' k' a' t' true))) := by
  by_cases h0 : o1 = 0
  · subst h0
    obtain ⟨r, hr⟩ : ∃ r, (aOkB d l f s o n x c k a t c' k' a' t' && aOkB d l f s 0 n1 x1 0 0 0 0 c' k' a' t') = r := ⟨_, rfl⟩
    have q1 := fun W => withOrdinary_spec0 d l f s o n x c k a t c' k' a' t' n1 x1 W r hr
    have q2 := fun W (hb : Below w.heap.size w W) => withOrd0_impl d l f s o n x c k a t c' k' a' t' n1 x1 W r hr (hA.below hb)
    cases r
    · exact ⟨0, 0, 0, 0, 0, 0, 0, 0, 0, 0, 0, 0, 0, 0, 0, 0, 0, 0, 0, 0, 0, 0, 0, 0, 0, 0, 0, 0, 0, 0, false, fun W => q1 W, fun W hb => q2 W hb, fun h => Bool.noConfusion h⟩
    · rw [Bool.and_eq_true] at hr
      rcases (aOk_out hr.1).2.2 with ⟨e1, e2, e3, e4⟩ | ⟨ho, _⟩
      · obtain ⟨g1, g2, g3, g4⟩ := gNo_zero4 e4
        subst e1 e2 e3 g1 g2 g3 g4
        exact ⟨d, l, f, s, 0, n1, x1, 0, 0, 0, 0, c', k', a', t', d, l, f, s, 0, 0, 0, 0, 0, 0, 0, c', k', a', t', true, fun W => q1 W, fun W hb => q2 W hb, fun _ => ⟨fun W hb => withOrd0_impl d l f s 0 n1 x1 0 0 0 0 c' k' a' t' 0 0 W true (by rw [hr.2, hr.1]; rfl) (hA.below hb), fun W hb => withGroups_impl d l f s 0 0 0 0 0 0 0 c' k' a' t' 0 0 0 0 c' k' a' t' W true (by rw [hr.1]; rfl) (hA.below hb)⟩⟩
      · have ho' : o ≠ 0 := by omega
        have hz := aOk_none hr.1 ho'
        exact ⟨d, l, f, s, 0, n1, x1, 0, 0, 0, 0, c', k', a', t', d, l, f, s, o, n, x, 0, 0, 0, 0, c', k', a', t', true, fun W => q1 W, fun W hb => q2 W hb, fun _ => ⟨fun W hb => withOrd_impl d l f s 0 n1 x1 0 0 0 0 c' k' a' t' o n x W ho' true (by rw [hr.2, hz]; rfl) (hA.below hb), fun W hb => withGroups_impl d l f s o n x 0 0 0 0 c' k' a' t' c k a t c' k' a' t' W true (by rw [hz, hr.1]; rfl) (hA.below hb)⟩⟩
  · obtain ⟨r, hr⟩ : ∃ r, (aOkB d l f s o n x c k a t c' k' a' t' && aOkB d l f s o1 n1 x1 c k a t c' k' a' t') = r := ⟨_, rfl⟩
    have q1 := fun W => withOrdinary_spec d l f s o n x c k a t c' k' a' t' o1 n1 x1 W h0 r hr
    have q2 := fun W (hb : Below w.heap.size w W) => withOrd_impl d l f s o n x c k a t c' k' a' t' o1 n1 x1 W h0 r hr (hA.below hb)
    cases r
    · exact ⟨0, 0, 0, 0, 0, 0, 0, 0, 0, 0, 0, 0, 0, 0, 0, 0, 0, 0, 0, 0, 0, 0, 0, 0, 0, 0, 0, 0, 0, 0, false, fun W => q1 W, fun W hb => q2 W hb, fun h => Bool.noConfusion h⟩
    · rw [Bool.and_eq_true] at hr
      rcases (aOk_out hr.1).2.2 with ⟨e1, e2, e3, e4⟩ | ⟨ho, _⟩
      · obtain ⟨g1, g2, g3, g4⟩ := gNo_zero4 e4
        subst e1 e2 e3 g1 g2 g3 g4
        exact ⟨d, l, f, s, o1, n1, x1, 0, 0, 0, 0, c', k', a', t', d, l, f, s, 0, 0, 0, 0, 0, 0, 0, c', k', a', t', true, fun W => q1 W, fun W hb => q2 W hb, fun _ => ⟨fun W hb => withOrd0_impl d l f s o1 n1 x1 0 0 0 0 c' k' a' t' 0 0 W true (by rw [hr.2, hr.1]; rfl) (hA.below hb), fun W hb => withGroups_impl d l f s 0 0 0 0 0 0 0 c' k' a' t' 0 0 0 0 c' k' a' t' W true (by rw [hr.1]; rfl) (hA.below hb)⟩⟩
      · have ho' : o ≠ 0 := by omega
        exact ⟨d, l, f, s, o1, n1, x1, c, k, a, t, c', k', a', t', d, l, f, s, o, n, x, c, k, a, t, c', k', a', t', true, fun W => q1 W, fun W hb => q2 W hb, fun _ => ⟨fun W hb => withOrd_impl d l f s o1 n1 x1 c k a t c' k' a' t' o n x W ho' true (by rw [hr.2, hr.1]; rfl) (hA.below hb), fun W hb => withGroups_impl d l f s o n x c k a t c' k' a' t' c k a t c' k' a' t' W true (by rw [hr.1]; rfl) (hA.below hb)⟩⟩
end Go.Proofs.YtpcghkciibbmgaaDoor
namespace Go.Proofs.YtpcghkciibbmgaaDoor
open Go.RowKit

theorem BoxF.all4d {W : World} {c : Nat} {x0 x1 x2 x3 v0 v1 v2 v3 : Value} {t : TypeId} (h : BoxF W c [x0, x1, x2, x3] t) : BoxF ((((W.setCell ⟨c, 0, none⟩ v0).setCell ⟨c, 1, none⟩ v1).setCell ⟨c, 2, none⟩ v2).setCell ⟨c, 3, none⟩ v3) c [v0, v1, v2, v3] t := (((h.set 0 v0).set 1 v1).set 2 v2).set 3 v3
set_option maxRecDepth 100000 in
set_option maxHeartbeats 8000000 in
theorem drawWF_any (x : Option Addr) (n cap : Nat) (w : World) (h : RdB w w.heap.size x n) (hn : n ≤ 65536) :
    Calls Tryd.prog 14 #[.slice x n cap] w fun e w' => (∃ d l f s o ln tn c k a t c' k' a' t' y0 y1 y2 y3 : Int, e = .returned (.tuple #[.agg #[.int .i64 d, .int .i64 l, .int .i64 f, .int .i64 s, .int .i64 o, .int .i64 ln, .int .i64 tn, .int .i64 c, .int .i64 k, .int .i64 a, .int .i64 t, .int .i64 c', .int .i64 k', .int .i64 a', .int .i64 t'], .agg #[.int .i64 y0, .int .i64 y1, .int .i64 y2, .int .i64 y3]])) ∧ Below w.heap.size w w' := by
  have b0 := (BoxF.new w [.int .i64 0, .int .i64 0, .int .i64 0, .int .i64 0, .int .i64 0, .int .i64 0, .int .i64 0, .int .i64 0, .int .i64 0, .int .i64 0, .int .i64 0, .int .i64 0, .int .i64 0, .int .i64 0, .int .i64 0] 29).alloc (.cells #[.int .i64 0, .int .i64 0, .int .i64 0, .int .i64 0] 25 (0, 0))
  have b1 := BoxF.new (w.alloc (.cells #[.int .i64 0, .int .i64 0, .int .i64 0, .int .i64 0, .int .i64 0, .int .i64 0, .int .i64 0, .int .i64 0, .int .i64 0, .int .i64 0, .int .i64 0, .int .i64 0, .int .i64 0, .int .i64 0, .int .i64 0] 29 (0, 0))) [.int .i64 0, .int .i64 0, .int .i64 0, .int .i64 0] 25
  simp only [World.size_alloc] at b1
  have hB0 : Below w.heap.size w ((w.alloc (.cells #[.int .i64 0, .int .i64 0, .int .i64 0, .int .i64 0, .int .i64 0, .int .i64 0, .int .i64 0, .int .i64 0, .int .i64 0, .int .i64 0, .int .i64 0, .int .i64 0, .int .i64 0, .int .i64 0, .int .i64 0] 29 (0, 0))).alloc (.cells #[.int .i64 0, .int .i64 0, .int .i64 0, .int .i64 0] 25 (0, 0))) := ((Below.refl _ w).alloc (Nat.le_refl _) _).alloc (by simp) _
  have hc := isCur_new cap (h.on hB0)
  simp only [World.size_alloc] at hc
  have hB1 := hB0.alloc (by simp; omega) (.cells #[.slice x n cap, .int .i64 0, .int .u64 0] 55 (0, 0))
  have hc : IsCur _ w.heap.size (w.heap.size + 1 + 1) x n cap 0 := ⟨by omega, h.keep hB1, hc.2.2⟩
  have HC0 := Lib.hid hc
  have XR0 := Lib.hid (b0.alloc (.cells #[.slice x n cap, .int .i64 0, .int .u64 0] 55 (0, 0)))
  have XS0 := Lib.hid (b1.alloc (.cells #[.slice x n cap, .int .i64 0, .int .u64 0] 55 (0, 0)))
  have HB0 := Lib.hid hB1
  clear h hc b0 b1 hB0 hB1
  go_enter Tryd.func14, Tryd.ntmps14
  go_wp2_with fail
  refine (anyArms_any w.heap.size (w.heap.size + 1 + 1) x n cap 0 _ HC0.out (by omega) hn).mono ?_
  rintro e w1 ⟨⟨d, l, f, s, o, ln, tn, c, k, a, t, c', k', a', t', rfl⟩, hc1, hg1⟩
  have HC1 := Lib.hid hc1
  have XR1 := Lib.hid (XR0.out.kept hg1 (by first | (simp; done) | (simp; omega)))
  have XS1 := Lib.hid (XS0.out.kept hg1 (by first | (simp; done) | (simp; omega)))
  have HB1 := Lib.hid (HB0.out.grown hg1 (by simp; omega) (fun q hq => by cases hq; omega))
  clear hc1 hg1 HC0 XR0 XS0 HB0
  go_wp2_with fail
  refine (anyField_any w.heap.size (w.heap.size + 1 + 1) x n cap _ _ HC1.out (by omega) hn).mono ?_
  rintro e w2 ⟨⟨y0, y1, y2, y3, rfl⟩, hc1, hg1⟩
  have XR2 := Lib.hid (XR1.out.kept hg1 (by first | (simp; done) | (simp; omega)))
  have XS2 := Lib.hid (XS1.out.kept hg1 (by first | (simp; done) | (simp; omega)))
  have HB2 := Lib.hid (HB1.out.grown hg1 HB1.out.size (fun q hq => by cases hq; omega))
  clear hc1 hg1 HC1 XR1 XS1 HB1
  have t_ := XR2.out.ther (n := 15) rfl
  have xs_ : BoxF (w2.setCells w.heap.size 0 [.int .i64 d, .int .i64 l, .int .i64 f, .int .i64 s, .int .i64 o, .int .i64 ln, .int .i64 tn, .int .i64 c, .int .i64 k, .int .i64 a, .int .i64 t, .int .i64 c', .int .i64 k', .int .i64 a', .int .i64 t']) (w.heap.size + 1) [.int .i64 0, .int .i64 0, .int .i64 0, .int .i64 0] 25 := XS2.out.kept (setc_grown w2 w.heap.size [.int .i64 d, .int .i64 l, .int .i64 f, .int .i64 s, .int .i64 o, .int .i64 ln, .int .i64 tn, .int .i64 c, .int .i64 k, .int .i64 a, .int .i64 t, .int .i64 c', .int .i64 k', .int .i64 a', .int .i64 t']) (by simp)
  obtain ⟨k0, k1, k2, k3, kf⟩ := xs_.four
  go_wp2_with (with_reducible refine isList ?_; (set_option maxRecDepth 100000 in refine st15 2 9 w.heap.size [.int .i64 d, .int .i64 l, .int .i64 f, .int .i64 s, .int .i64 o, .int .i64 ln, .int .i64 tn, .int .i64 c, .int .i64 k, .int .i64 a, .int .i64 t, .int .i64 c', .int .i64 k', .int .i64 a', .int .i64 t'] rfl rfl rfl rfl rfl ?_ ?_ ?_); exact t_; simp [Value.oneCell'])
  clear k0 k1 k2 k3 kf t_
  obtain ⟨W3, h3⟩ : ∃ X, X = w2.setCells w.heap.size 0 [.int .i64 d, .int .i64 l, .int .i64 f, .int .i64 s, .int .i64 o, .int .i64 ln, .int .i64 tn, .int .i64 c, .int .i64 k, .int .i64 a, .int .i64 t, .int .i64 c', .int .i64 k', .int .i64 a', .int .i64 t'] := ⟨_, rfl⟩
  have g3 : w2.grownBy W3 (some w.heap.size) := by rw [h3]; exact setc_grown w2 w.heap.size [.int .i64 d, .int .i64 l, .int .i64 f, .int .i64 s, .int .i64 o, .int .i64 ln, .int .i64 tn, .int .i64 c, .int .i64 k, .int .i64 a, .int .i64 t, .int .i64 c', .int .i64 k', .int .i64 a', .int .i64 t']
  have XR3 : BoxF W3 w.heap.size [.int .i64 d, .int .i64 l, .int .i64 f, .int .i64 s, .int .i64 o, .int .i64 ln, .int .i64 tn, .int .i64 c, .int .i64 k, .int .i64 a, .int .i64 t, .int .i64 c', .int .i64 k', .int .i64 a', .int .i64 t'] 29 := by rw [h3]; exact BoxF.setAll (vs := [.int .i64 d, .int .i64 l, .int .i64 f, .int .i64 s, .int .i64 o, .int .i64 ln, .int .i64 tn, .int .i64 c, .int .i64 k, .int .i64 a, .int .i64 t, .int .i64 c', .int .i64 k', .int .i64 a', .int .i64 t']) XR2.out
  have XS3 : BoxF W3 (w.heap.size + 1) [.int .i64 0, .int .i64 0, .int .i64 0, .int .i64 0] 25 := by rw [h3]; exact xs_
  rw [← h3]
  clear h3 xs_ XS2 XR2
  have HB3 := HB2.out.grown g3 HB2.out.size (fun q hq => by cases hq; omega)
  have gs := grown4 W3 (w.heap.size + 1) (.int .i64 y0) (.int .i64 y1) (.int .i64 y2) (.int .i64 y3)
  have XR4 := XR3.kept gs (by simp)
  have XS4 := BoxF.all4d (v0 := .int .i64 y0) (v1 := .int .i64 y1) (v2 := .int .i64 y2) (v3 := .int .i64 y3) XS3
  have HB4 := HB3.grown gs HB3.size (fun q hq => by cases hq; omega)
  generalize (((W3.setCell ⟨w.heap.size + 1, 0, none⟩ (.int .i64 y0)).setCell ⟨w.heap.size + 1, 1, none⟩ (.int .i64 y1)).setCell ⟨w.heap.size + 1, 2, none⟩ (.int .i64 y2)).setCell ⟨w.heap.size + 1, 3, none⟩ (.int .i64 y3) = W4 at *
  obtain ⟨z0, z1, z2, z3, z4, z5, z6, z7, z8, z9, z10, z11, z12, z13, z14, zf⟩ := XR4.fifteen
  obtain ⟨k0, k1, k2, k3, kf⟩ := XS4.four
  exact bodyPost_ret (v := .tuple #[.agg #[.int .i64 d, .int .i64 l, .int .i64 f, .int .i64 s, .int .i64 o, .int .i64 ln, .int .i64 tn, .int .i64 c, .int .i64 k, .int .i64 a, .int .i64 t, .int .i64 c', .int .i64 k', .int .i64 a', .int .i64 t'], .agg #[.int .i64 y0, .int .i64 y1, .int .i64 y2, .int .i64 y3]]) (by simp [results, Tryd.results14, go_sem, z0, z1, z2, z3, z4, z5, z6, z7, z8, z9, z10, z11, z12, z13, z14, k0, k1, k2, k3]) rfl ⟨⟨_, _, _, _, _, _, _, _, _, _, _, _, _, _, _, _, _, _, _, rfl⟩, HB4⟩
end Go.Proofs.YtpcghkciibbmgaaDoor
namespace Go.Proofs.YtpcghkciibbmgaaDoor
open Go.RowKit

set_option maxRecDepth 100000 in
set_option maxHeartbeats 8000000 in
theorem drawWO_any (x : Option Addr) (n cap : Nat) (w : World) (h : RdB w w.heap.size x n) (hn : n ≤ 65536) :
    Calls Tryd.prog 17 #[.slice x n cap] w fun e w' => (∃ d l f s o ln tn c k a t c' k' a' t' o1 n1 x1 : Int, e = .returned (.tuple #[.agg #[.int .i64 d, .int .i64 l, .int .i64 f, .int .i64 s, .int .i64 o, .int .i64 ln, .int .i64 tn, .int .i64 c, .int .i64 k, .int .i64 a, .int .i64 t, .int .i64 c', .int .i64 k', .int .i64 a', .int .i64 t'], .int .i64 o1, .int .i64 n1, .int .i64 x1])) ∧ Below w.heap.size w w' := by
  have b0 := BoxF.new w [.int .i64 0, .int .i64 0, .int .i64 0, .int .i64 0, .int .i64 0, .int .i64 0, .int .i64 0, .int .i64 0, .int .i64 0, .int .i64 0, .int .i64 0, .int .i64 0, .int .i64 0, .int .i64 0, .int .i64 0] 29
  have hB0 : Below w.heap.size w (w.alloc (.cells #[.int .i64 0, .int .i64 0, .int .i64 0, .int .i64 0, .int .i64 0, .int .i64 0, .int .i64 0, .int .i64 0, .int .i64 0, .int .i64 0, .int .i64 0, .int .i64 0, .int .i64 0, .int .i64 0, .int .i64 0] 29 (0, 0))) := (Below.refl _ w).alloc (Nat.le_refl _) _
  have hc := isCur_new cap (h.on hB0)
  simp only [World.size_alloc] at hc
  have hB1 := hB0.alloc (by simp) (.cells #[.slice x n cap, .int .i64 0, .int .u64 0] 55 (0, 0))
  have hc : IsCur _ w.heap.size (w.heap.size + 1) x n cap 0 := ⟨by omega, h.keep hB1, hc.2.2⟩
  clear hB1
  have HC0 := Lib.hid hc
  have XR0 := Lib.hid (b0.alloc (.cells #[.slice x n cap, .int .i64 0, .int .u64 0] 55 (0, 0)))
  have HB0 := Lib.hid (hB0.alloc (by simp) (.cells #[.slice x n cap, .int .i64 0, .int .u64 0] 55 (0, 0)))
  clear h hc b0 hB0
  go_enter Tryd.func17, Tryd.ntmps17
  go_wp2_with fail
  refine (anyArms_any w.heap.size (w.heap.size + 1) x n cap 0 _ HC0.out (by omega) hn).mono ?_
  rintro e w1 ⟨⟨d, l, f, s, o, ln, tn, c, k, a, t, c', k', a', t', rfl⟩, hc1, hg1⟩
  have hz1 := hg1.size
  simp only [World.size_alloc] at hz1
  have XA1 := BoxF.new w1 [.int .i64 d, .int .i64 l, .int .i64 f, .int .i64 s, .int .i64 o, .int .i64 ln, .int .i64 tn, .int .i64 c, .int .i64 k, .int .i64 a, .int .i64 t, .int .i64 c', .int .i64 k', .int .i64 a', .int .i64 t'] 29
  have XR1 := Lib.hid ((XR0.out.kept hg1 (by first | (simp; done) | (simp; omega))).alloc (.cells #[.int .i64 d, .int .i64 l, .int .i64 f, .int .i64 s, .int .i64 o, .int .i64 ln, .int .i64 tn, .int .i64 c, .int .i64 k, .int .i64 a, .int .i64 t, .int .i64 c', .int .i64 k', .int .i64 a', .int .i64 t'] 29 (0, 0)))
  have HC1 := Lib.hid (hc1.alloc (.cells #[.int .i64 d, .int .i64 l, .int .i64 f, .int .i64 s, .int .i64 o, .int .i64 ln, .int .i64 tn, .int .i64 c, .int .i64 k, .int .i64 a, .int .i64 t, .int .i64 c', .int .i64 k', .int .i64 a', .int .i64 t'] 29 (0, 0)))
  have HB1 := Lib.hid ((HB0.out.grown hg1 (by simp; omega) (fun q hq => by cases hq; omega)).alloc (by omega) (.cells #[.int .i64 d, .int .i64 l, .int .i64 f, .int .i64 s, .int .i64 o, .int .i64 ln, .int .i64 tn, .int .i64 c, .int .i64 k, .int .i64 a, .int .i64 t, .int .i64 c', .int .i64 k', .int .i64 a', .int .i64 t'] 29 (0, 0)))
  clear hc1 hg1 HC0 XR0 HB0
  go_wp2_with fail
  obtain ⟨D, hDe⟩ : ∃ D, w1.heap.size = D := ⟨_, rfl⟩
  have hD : w.heap.size + 1 < D := by omega
  rw [hDe] at XA1 ⊢
  have XA1 := Lib.hid XA1
  clear hz1 hDe
  generalize w1.alloc (.cells #[.int .i64 d, .int .i64 l, .int .i64 f, .int .i64 s, .int .i64 o, .int .i64 ln, .int .i64 tn, .int .i64 c, .int .i64 k, .int .i64 a, .int .i64 t, .int .i64 c', .int .i64 k', .int .i64 a', .int .i64 t'] 29 (0, 0)) = W1 at *
  refine (one_any w.heap.size (w.heap.size + 1) x n cap _ _ HC1.out (by omega) hn 4 (by omega) (by omega)).mono ?_
  rintro e w2 ⟨⟨b, rfl⟩, hc2, hg2⟩
  have XA2 := Lib.hid (XA1.out.kept hg2 (by first | (simp; done) | (simp; omega)))
  have XR2 := Lib.hid (XR1.out.kept hg2 (by first | (simp; done) | (simp; omega)))
  have HC2 := Lib.hid hc2
  have HB2 := Lib.hid (HB1.out.grown hg2 HB1.out.size (fun q hq => by cases hq; omega))
  clear hc2 hg2 HC1 XA1 XR1 HB1
  have CT := Lib.hid (fun W M (hS : W.rangeAt D 0 [.int .i64 d, .int .i64 l, .int .i64 f, .int .i64 s, .int .i64 o, .int .i64 ln, .int .i64 tn, .int .i64 c, .int .i64 k, .int .i64 a, .int .i64 t, .int .i64 c', .int .i64 k', .int .i64 a', .int .i64 t'] ∧ JD w D [.int .i64 d, .int .i64 l, .int .i64 f, .int .i64 s, .int .i64 o, .int .i64 ln, .int .i64 tn, .int .i64 c, .int .i64 k, .int .i64 a, .int .i64 t, .int .i64 c', .int .i64 k', .int .i64 a', .int .i64 t'] 29 W) (hc : IsCur W w.heap.size (w.heap.size + 1) x n cap M) (hM : M ≤ 900) => (anyTincture_any w.heap.size (w.heap.size + 1) x n cap M W hc (by omega) hn).mono (fun e w' hh => (⟨⟨hh.1.choose, hh.1.choose_spec.1⟩, jd_kept hS hh.2.2 (by omega) (by omega), hh.2.1, hh.2.2⟩ : (∃ y : Int, e = Ending.returned (.int .i64 y)) ∧ (w'.rangeAt D 0 [.int .i64 d, .int .i64 l, .int .i64 f, .int .i64 s, .int .i64 o, .int .i64 ln, .int .i64 tn, .int .i64 c, .int .i64 k, .int .i64 a, .int .i64 t, .int .i64 c', .int .i64 k', .int .i64 a', .int .i64 t'] ∧ JD w D [.int .i64 d, .int .i64 l, .int .i64 f, .int .i64 s, .int .i64 o, .int .i64 ln, .int .i64 tn, .int .i64 c, .int .i64 k, .int .i64 a, .int .i64 t, .int .i64 c', .int .i64 k', .int .i64 a', .int .i64 t'] 29 w') ∧ IsCur w' w.heap.size (w.heap.size + 1) x n cap (M + 4) ∧ W.grownBy w' (some (w.heap.size + 1)))))
  have CP9 := Lib.hid (fun W M (hS : W.rangeAt D 0 [.int .i64 d, .int .i64 l, .int .i64 f, .int .i64 s, .int .i64 o, .int .i64 ln, .int .i64 tn, .int .i64 c, .int .i64 k, .int .i64 a, .int .i64 t, .int .i64 c', .int .i64 k', .int .i64 a', .int .i64 t'] ∧ JD w D [.int .i64 d, .int .i64 l, .int .i64 f, .int .i64 s, .int .i64 o, .int .i64 ln, .int .i64 tn, .int .i64 c, .int .i64 k, .int .i64 a, .int .i64 t, .int .i64 c', .int .i64 k', .int .i64 a', .int .i64 t'] 29 W) (hc : IsCur W w.heap.size (w.heap.size + 1) x n cap M) (hM : M ≤ 900) => (pick_any w.heap.size (w.heap.size + 1) x n cap M W hc (by omega) hn 9 (by omega) (by omega)).mono (fun e w' hh => (⟨⟨hh.1.choose, hh.1.choose_spec.1⟩, jd_kept hS hh.2.2 (by omega) (by omega), hh.2.1, hh.2.2⟩ : (∃ y : Int, e = Ending.returned (.int .i64 y)) ∧ (w'.rangeAt D 0 [.int .i64 d, .int .i64 l, .int .i64 f, .int .i64 s, .int .i64 o, .int .i64 ln, .int .i64 tn, .int .i64 c, .int .i64 k, .int .i64 a, .int .i64 t, .int .i64 c', .int .i64 k', .int .i64 a', .int .i64 t'] ∧ JD w D [.int .i64 d, .int .i64 l, .int .i64 f, .int .i64 s, .int .i64 o, .int .i64 ln, .int .i64 tn, .int .i64 c, .int .i64 k, .int .i64 a, .int .i64 t, .int .i64 c', .int .i64 k', .int .i64 a', .int .i64 t'] 29 w') ∧ IsCur w' w.heap.size (w.heap.size + 1) x n cap (M + 2) ∧ W.grownBy w' (some (w.heap.size + 1)))))
  have CP8 := Lib.hid (fun W M (hS : W.rangeAt D 0 [.int .i64 d, .int .i64 l, .int .i64 f, .int .i64 s, .int .i64 o, .int .i64 ln, .int .i64 tn, .int .i64 c, .int .i64 k, .int .i64 a, .int .i64 t, .int .i64 c', .int .i64 k', .int .i64 a', .int .i64 t'] ∧ JD w D [.int .i64 d, .int .i64 l, .int .i64 f, .int .i64 s, .int .i64 o, .int .i64 ln, .int .i64 tn, .int .i64 c, .int .i64 k, .int .i64 a, .int .i64 t, .int .i64 c', .int .i64 k', .int .i64 a', .int .i64 t'] 29 W) (hc : IsCur W w.heap.size (w.heap.size + 1) x n cap M) (hM : M ≤ 900) => (pick_any w.heap.size (w.heap.size + 1) x n cap M W hc (by omega) hn 8 (by omega) (by omega)).mono (fun e w' hh => (⟨⟨hh.1.choose, hh.1.choose_spec.1⟩, jd_kept hS hh.2.2 (by omega) (by omega), hh.2.1, hh.2.2⟩ : (∃ y : Int, e = Ending.returned (.int .i64 y)) ∧ (w'.rangeAt D 0 [.int .i64 d, .int .i64 l, .int .i64 f, .int .i64 s, .int .i64 o, .int .i64 ln, .int .i64 tn, .int .i64 c, .int .i64 k, .int .i64 a, .int .i64 t, .int .i64 c', .int .i64 k', .int .i64 a', .int .i64 t'] ∧ JD w D [.int .i64 d, .int .i64 l, .int .i64 f, .int .i64 s, .int .i64 o, .int .i64 ln, .int .i64 tn, .int .i64 c, .int .i64 k, .int .i64 a, .int .i64 t, .int .i64 c', .int .i64 k', .int .i64 a', .int .i64 t'] 29 w') ∧ IsCur w' w.heap.size (w.heap.size + 1) x n cap (M + 2) ∧ W.grownBy w' (some (w.heap.size + 1)))))
  have CP6 := Lib.hid (fun W M (hS : W.rangeAt D 0 [.int .i64 d, .int .i64 l, .int .i64 f, .int .i64 s, .int .i64 o, .int .i64 ln, .int .i64 tn, .int .i64 c, .int .i64 k, .int .i64 a, .int .i64 t, .int .i64 c', .int .i64 k', .int .i64 a', .int .i64 t'] ∧ JD w D [.int .i64 d, .int .i64 l, .int .i64 f, .int .i64 s, .int .i64 o, .int .i64 ln, .int .i64 tn, .int .i64 c, .int .i64 k, .int .i64 a, .int .i64 t, .int .i64 c', .int .i64 k', .int .i64 a', .int .i64 t'] 29 W) (hc : IsCur W w.heap.size (w.heap.size + 1) x n cap M) (hM : M ≤ 900) => (pick_any w.heap.size (w.heap.size + 1) x n cap M W hc (by omega) hn 6 (by omega) (by omega)).mono (fun e w' hh => (⟨⟨hh.1.choose, hh.1.choose_spec.1⟩, jd_kept hS hh.2.2 (by omega) (by omega), hh.2.1, hh.2.2⟩ : (∃ y : Int, e = Ending.returned (.int .i64 y)) ∧ (w'.rangeAt D 0 [.int .i64 d, .int .i64 l, .int .i64 f, .int .i64 s, .int .i64 o, .int .i64 ln, .int .i64 tn, .int .i64 c, .int .i64 k, .int .i64 a, .int .i64 t, .int .i64 c', .int .i64 k', .int .i64 a', .int .i64 t'] ∧ JD w D [.int .i64 d, .int .i64 l, .int .i64 f, .int .i64 s, .int .i64 o, .int .i64 ln, .int .i64 tn, .int .i64 c, .int .i64 k, .int .i64 a, .int .i64 t, .int .i64 c', .int .i64 k', .int .i64 a', .int .i64 t'] 29 w') ∧ IsCur w' w.heap.size (w.heap.size + 1) x n cap (M + 2) ∧ W.grownBy w' (some (w.heap.size + 1)))))
  have HONE := Lib.hid (show (List.toArray [Value.int .i64 d, Value.int .i64 l, Value.int .i64 f, Value.int .i64 s, Value.int .i64 o, Value.int .i64 ln, Value.int .i64 tn, Value.int .i64 c, Value.int .i64 k, Value.int .i64 a, Value.int .i64 t, Value.int .i64 c', Value.int .i64 k', Value.int .i64 a', Value.int .i64 t']).all (·.oneCell') = true by simp [Value.oneCell'])
  cases b
  · go_upto_region 5 with fail
    go_cut [3, 4, 5] (fun s3 s4 s5 wx => ∃ o1 n1 x1 : Int, s3 = .int .i64 o1 ∧ s4 = .int .i64 n1 ∧ s5 = .int .i64 x1 ∧ BoxF wx w.heap.size [.int .i64 d, .int .i64 l, .int .i64 f, .int .i64 s, .int .i64 o, .int .i64 ln, .int .i64 tn, .int .i64 c, .int .i64 k, .int .i64 a, .int .i64 t, .int .i64 c', .int .i64 k', .int .i64 a', .int .i64 t'] 29 ∧ Below w.heap.size w wx)
    case first =>
      have hj := jd_of (w := w) ⟨XA2.out, HB2.out⟩
      have hS0 := jd_drew hj
      have hC := HC2.out.drew
      have hR := XR2.out.drewR
      clear hj XA2 HB2 HC2 XR2
      refine wp_region_noPanic ?_
      refine wp_region_held_drew (S := fun w' => w'.rangeAt D 0 [.int .i64 d, .int .i64 l, .int .i64 f, .int .i64 s, .int .i64 o, .int .i64 ln, .int .i64 tn, .int .i64 c, .int .i64 k, .int .i64 a, .int .i64 t, .int .i64 c', .int .i64 k', .int .i64 a', .int .i64 t'] ∧ JD w D [.int .i64 d, .int .i64 l, .int .i64 f, .int .i64 s, .int .i64 o, .int .i64 ln, .int .i64 tn, .int .i64 c, .int .i64 k, .int .i64 a, .int .i64 t, .int .i64 c', .int .i64 k', .int .i64 a', .int .i64 t'] 29 w') (by kernel_rfl) hS0 (fun hHeld => ?_)
      clear hS0
      generalize w2.drew = Wd at *
      refine wpAnyH_take (i := 0) rfl (by kernel_rfl) (by kernel_rfl) (by kernel_rfl) (fun _ _ _ h => h) (yieldsIf_load_mid (by rfl) 29 _ rfl D 0 rfl [.int .i64 d, .int .i64 l, .int .i64 f, .int .i64 s, .int .i64 o, .int .i64 ln, .int .i64 tn, .int .i64 c, .int .i64 k, .int .i64 a, .int .i64 t, .int .i64 c', .int .i64 k', .int .i64 a', .int .i64 t'] _ (fun w h => h.1) Tryd.underlying29 rfl (by kernel_rfl)) hHeld ?_
      set_option linter.unusedSimpArgs false in try simp only [Act.put, List.setIfInBounds_toArray, List.set_cons_zero, List.set_cons_succ]
      refine wpAnyH_take (i := 1) (v := ?_) rfl (by kernel_rfl) (by kernel_rfl) (by kernel_rfl) (fun _ _ _ h => h) (Or.inl ⟨by rfl, ?_⟩) hHeld ?_
      rotate_left
      · (intro w hSw; clear hSw; go_simp; first | done | with_reducible rfl)
      set_option linter.unusedSimpArgs false in try simp only [Act.put, List.setIfInBounds_toArray, List.set_cons_zero, List.set_cons_succ]
      refine wpAnyH_take (i := 4) (v := ?_) rfl (by kernel_rfl) (by kernel_rfl) (by kernel_rfl) (fun _ _ _ h => h) (Or.inl ⟨by rfl, ?_⟩) hHeld ?_
      rotate_left
      · (intro w hSw; clear hSw; go_simp; first | done | with_reducible rfl)
      set_option linter.unusedSimpArgs false in try simp only [Act.put, List.setIfInBounds_toArray, List.set_cons_zero, List.set_cons_succ]
      refine wpAnyH_take (i := 6) (v := ?_) rfl (by kernel_rfl) (by kernel_rfl) (by kernel_rfl) (fun _ _ _ h => h) (Or.inl ⟨by rfl, ?_⟩) hHeld ?_
      rotate_left
      · (intro w hSw; clear hSw; go_simp; first | done | with_reducible rfl)
      set_option linter.unusedSimpArgs false in try simp only [Act.put, List.setIfInBounds_toArray, List.set_cons_zero, List.set_cons_succ]
      refine wpAnyH_ready (rs := [2]) (by kernel_rfl) (by simp) ?_
      refine AllReadyH.cons rfl (fun K hK => ?_) ?_
      · go_simp
        refine (CP8.out _ _ hHeld hC (by omega)).mono ?_
        rintro e V1 ⟨⟨y1, rfl⟩, hS, hC2, hG⟩
        have hR2 := BoxF.kept hR hG (by simp)
        clear hC hR hG
        have hC := hC2
        have hR := hR2
        clear hC2 hR2
        go_wp2_with fail
        refine hK.out _ _ hS (fun hHeld => ?_)
        clear hK K hS
        set_option linter.unusedSimpArgs false in try simp only [Act.put, List.setIfInBounds_toArray, List.set_cons_zero, List.set_cons_succ]
        refine wpAnyH_take (i := 3) (v := ?_) rfl (by kernel_rfl) (by kernel_rfl) (by kernel_rfl) (fun _ _ _ h => h) (Or.inl ⟨by rfl, ?_⟩) hHeld ?_
        rotate_left
        · (intro w hSw; clear hSw; go_simp; first | done | with_reducible rfl)
        set_option linter.unusedSimpArgs false in try simp only [Act.put, List.setIfInBounds_toArray, List.set_cons_zero, List.set_cons_succ]
        refine wpAnyH_ready (rs := [5]) (by kernel_rfl) (by simp) ?_
        refine AllReadyH.cons rfl (fun K hK => ?_) ?_
        · go_simp
          refine (CP6.out _ _ hHeld hC (by omega)).mono ?_
          rintro e V2 ⟨⟨y2, rfl⟩, hS, hC2, hG⟩
          have hR2 := BoxF.kept hR hG (by simp)
          clear hC hR hG
          have hC := hC2
          have hR := hR2
          clear hC2 hR2
          go_wp2_with fail
          refine hK.out _ _ hS (fun hHeld => ?_)
          clear hK K hS
          set_option linter.unusedSimpArgs false in try simp only [Act.put, List.setIfInBounds_toArray, List.set_cons_zero, List.set_cons_succ]
          refine wpAnyH_ready (rs := [7]) (by kernel_rfl) (by simp) ?_
          refine AllReadyH.cons rfl (fun K hK => ?_) ?_
          · go_simp
            refine (CT.out _ _ hHeld hC (by omega)).mono ?_
            rintro e V3 ⟨⟨y3, rfl⟩, hS, hC2, hG⟩
            have hR2 := BoxF.kept hR hG (by simp)
            clear hC hR hG
            have hC := hC2
            have hR := hR2
            clear hC2 hR2
            go_wp2_with fail
            refine hK.out _ _ hS (fun hHeld => ?_)
            clear hK K hS
            set_option linter.unusedSimpArgs false in try simp only [Act.put, List.setIfInBounds_toArray, List.set_cons_zero, List.set_cons_succ]
            refine wpAnyH_ready (rs := [8]) (by kernel_rfl) (by simp) ?_
            refine AllReadyH.cons rfl (fun K hK => ?_) ?_
            rotate_left
            · exact AllReadyH.nil
            try rw [if_pos (by rfl)]
            set_option maxRecDepth 100000 in refine wp_store_mid (op := { dst := none, op := .store 29 (.tmp 2) (.tmp 19), type := 0, pos := _, after := _, guard := none }) 29 _ _ rfl w.heap.size 0 (List.toArray [.int .i64 d, .int .i64 l, .int .i64 f, .int .i64 s, .int .i64 o, .int .i64 ln, .int .i64 tn, .int .i64 c, .int .i64 k, .int .i64 a, .int .i64 t, .int .i64 c', .int .i64 k', .int .i64 a', .int .i64 t']) rfl rfl (hR.ther (n := 15) rfl) size29 HONE.out ?_
            refine hK.out _ _ (jd_setc [.int .i64 d, .int .i64 l, .int .i64 f, .int .i64 s, .int .i64 o, .int .i64 ln, .int .i64 tn, .int .i64 c, .int .i64 k, .int .i64 a, .int .i64 t, .int .i64 c', .int .i64 k', .int .i64 a', .int .i64 t'] (by omega) (by omega) hHeld) (fun hHeld => ?_)
            clear hK K
            set_option linter.unusedSimpArgs false in try simp only [Act.put, List.setIfInBounds_toArray, List.set_cons_zero, List.set_cons_succ]
            have hR : BoxF _ w.heap.size [.int .i64 d, .int .i64 l, .int .i64 f, .int .i64 s, .int .i64 o, .int .i64 ln, .int .i64 tn, .int .i64 c, .int .i64 k, .int .i64 a, .int .i64 t, .int .i64 c', .int .i64 k', .int .i64 a', .int .i64 t'] 29 := BoxF.setAll (vs := [.int .i64 d, .int .i64 l, .int .i64 f, .int .i64 s, .int .i64 o, .int .i64 ln, .int .i64 tn, .int .i64 c, .int .i64 k, .int .i64 a, .int .i64 t, .int .i64 c', .int .i64 k', .int .i64 a', .int .i64 t']) hR
            refine wpAnyH_take (i := 9) (oi := { dst := some 3, op := _, type := _, pos := _, after := _, guard := none }) (v := ?_) rfl (by kernel_rfl) (by kernel_rfl) (by kernel_rfl) (fun _ _ _ h => h) (Or.inl ⟨by rfl, ?_⟩) hHeld ?_
            rotate_left
            · (intro w hSw; clear hSw; go_simp; first | done | with_reducible rfl)
            set_option linter.unusedSimpArgs false in try simp only [Act.put, List.setIfInBounds_toArray, List.set_cons_zero, List.set_cons_succ]
            refine wpAnyH_take (i := 10) (oi := { dst := some 4, op := _, type := _, pos := _, after := _, guard := none }) (v := ?_) rfl (by kernel_rfl) (by kernel_rfl) (by kernel_rfl) (fun _ _ _ h => h) (Or.inl ⟨by rfl, ?_⟩) hHeld ?_
            rotate_left
            · (intro w hSw; clear hSw; go_simp; first | done | with_reducible rfl)
            set_option linter.unusedSimpArgs false in try simp only [Act.put, List.setIfInBounds_toArray, List.set_cons_zero, List.set_cons_succ]
            refine wpAnyH_take (i := 11) (oi := { dst := some 5, op := _, type := _, pos := _, after := _, guard := none }) (v := ?_) rfl (by kernel_rfl) (by kernel_rfl) (by kernel_rfl) (fun _ _ _ h => h) (Or.inl ⟨by rfl, ?_⟩) hHeld ?_
            rotate_left
            · (intro w hSw; clear hSw; go_simp; first | done | with_reducible rfl)
            set_option linter.unusedSimpArgs false in try simp only [Act.put, List.setIfInBounds_toArray, List.set_cons_zero, List.set_cons_succ]
            refine wpAnyH_done (by kernel_rfl) ?_ _
            refine NoPanic.normal ?_
            have hj := (jd_jd hHeld).2
            clear hHeld
            go_wp2_with fail
            go_meet
            exact ⟨_, _, _, rfl, rfl, rfl, hR, hj⟩
          exact AllReadyH.nil
        exact AllReadyH.nil
      exact AllReadyH.nil
    case rest =>
      obtain ⟨o1, n1, x1, rfl, rfl, rfl, hR, hB⟩ := hcut
      obtain ⟨z0, z1, z2, z3, z4, z5, z6, z7, z8, z9, z10, z11, z12, z13, z14, zf⟩ := hR.fifteen
      go_wp2_with fail
      exact bodyPost_ret (v := .tuple #[.agg #[.int .i64 d, .int .i64 l, .int .i64 f, .int .i64 s, .int .i64 o, .int .i64 ln, .int .i64 tn, .int .i64 c, .int .i64 k, .int .i64 a, .int .i64 t, .int .i64 c', .int .i64 k', .int .i64 a', .int .i64 t'], .int .i64 o1, .int .i64 n1, .int .i64 x1]) (by simp [results, Tryd.results17, go_sem, z0, z1, z2, z3, z4, z5, z6, z7, z8, z9, z10, z11, z12, z13, z14]) rfl ⟨⟨d, l, f, s, o, ln, tn, c, k, a, t, c', k', a', t', o1, n1, x1, rfl⟩, hB⟩
  · go_upto_region 4 with fail
    go_cut [3, 4, 5] (fun s3 s4 s5 wx => ∃ o1 n1 x1 : Int, s3 = .int .i64 o1 ∧ s4 = .int .i64 n1 ∧ s5 = .int .i64 x1 ∧ BoxF wx w.heap.size [.int .i64 d, .int .i64 l, .int .i64 f, .int .i64 s, .int .i64 o, .int .i64 ln, .int .i64 tn, .int .i64 c, .int .i64 k, .int .i64 a, .int .i64 t, .int .i64 c', .int .i64 k', .int .i64 a', .int .i64 t'] 29 ∧ Below w.heap.size w wx)
    case first =>
      have hj := jd_of (w := w) ⟨XA2.out, HB2.out⟩
      have hS0 := jd_drew hj
      have hC := HC2.out.drew
      have hR := XR2.out.drewR
      clear hj XA2 HB2 HC2 XR2
      refine wp_region_noPanic ?_
      refine wp_region_held_drew (S := fun w' => w'.rangeAt D 0 [.int .i64 d, .int .i64 l, .int .i64 f, .int .i64 s, .int .i64 o, .int .i64 ln, .int .i64 tn, .int .i64 c, .int .i64 k, .int .i64 a, .int .i64 t, .int .i64 c', .int .i64 k', .int .i64 a', .int .i64 t'] ∧ JD w D [.int .i64 d, .int .i64 l, .int .i64 f, .int .i64 s, .int .i64 o, .int .i64 ln, .int .i64 tn, .int .i64 c, .int .i64 k, .int .i64 a, .int .i64 t, .int .i64 c', .int .i64 k', .int .i64 a', .int .i64 t'] 29 w') (by kernel_rfl) hS0 (fun hHeld => ?_)
      clear hS0
      generalize w2.drew = Wd at *
      refine wpAnyH_take (i := 0) rfl (by kernel_rfl) (by kernel_rfl) (by kernel_rfl) (fun _ _ _ h => h) (yieldsIf_load_mid (by rfl) 29 _ rfl D 0 rfl [.int .i64 d, .int .i64 l, .int .i64 f, .int .i64 s, .int .i64 o, .int .i64 ln, .int .i64 tn, .int .i64 c, .int .i64 k, .int .i64 a, .int .i64 t, .int .i64 c', .int .i64 k', .int .i64 a', .int .i64 t'] _ (fun w h => h.1) Tryd.underlying29 rfl (by kernel_rfl)) hHeld ?_
      set_option linter.unusedSimpArgs false in try simp only [Act.put, List.setIfInBounds_toArray, List.set_cons_zero, List.set_cons_succ]
      refine wpAnyH_take (i := 1) (v := ?_) rfl (by kernel_rfl) (by kernel_rfl) (by kernel_rfl) (fun _ _ _ h => h) (Or.inl ⟨by rfl, ?_⟩) hHeld ?_
      rotate_left
      · (intro w hSw; clear hSw; go_simp; first | done | with_reducible rfl)
      set_option linter.unusedSimpArgs false in try simp only [Act.put, List.setIfInBounds_toArray, List.set_cons_zero, List.set_cons_succ]
      refine wpAnyH_ready (rs := [2]) (by kernel_rfl) (by simp) ?_
      refine AllReadyH.cons rfl (fun K hK => ?_) ?_
      · go_simp
        refine (CP9.out _ _ hHeld hC (by omega)).mono ?_
        rintro e V1 ⟨⟨y1, rfl⟩, hS, hC2, hG⟩
        have hR2 := BoxF.kept hR hG (by simp)
        clear hC hR hG
        have hC := hC2
        have hR := hR2
        clear hC2 hR2
        go_wp2_with fail
        refine hK.out _ _ hS (fun hHeld => ?_)
        clear hK K hS
        set_option linter.unusedSimpArgs false in try simp only [Act.put, List.setIfInBounds_toArray, List.set_cons_zero, List.set_cons_succ]
        refine wpAnyH_take (i := 3) (v := ?_) rfl (by kernel_rfl) (by kernel_rfl) (by kernel_rfl) (fun _ _ _ h => h) (Or.inl ⟨by rfl, ?_⟩) hHeld ?_
        rotate_left
        · (intro w hSw; clear hSw; go_simp; first | done | with_reducible rfl)
        set_option linter.unusedSimpArgs false in try simp only [Act.put, List.setIfInBounds_toArray, List.set_cons_zero, List.set_cons_succ]
        refine wpAnyH_ready (rs := [4]) (by kernel_rfl) (by simp) ?_
        refine AllReadyH.cons rfl (fun K hK => ?_) ?_
        rotate_left
        · exact AllReadyH.nil
        try rw [if_pos (by rfl)]
        set_option maxRecDepth 100000 in refine wp_store_mid (op := { dst := none, op := .store 29 (.tmp 2) (.tmp 15), type := 0, pos := _, after := _, guard := none }) 29 _ _ rfl w.heap.size 0 (List.toArray [.int .i64 d, .int .i64 l, .int .i64 f, .int .i64 s, .int .i64 o, .int .i64 ln, .int .i64 tn, .int .i64 c, .int .i64 k, .int .i64 a, .int .i64 t, .int .i64 c', .int .i64 k', .int .i64 a', .int .i64 t']) rfl rfl (hR.ther (n := 15) rfl) size29 HONE.out ?_
        refine hK.out _ _ (jd_setc [.int .i64 d, .int .i64 l, .int .i64 f, .int .i64 s, .int .i64 o, .int .i64 ln, .int .i64 tn, .int .i64 c, .int .i64 k, .int .i64 a, .int .i64 t, .int .i64 c', .int .i64 k', .int .i64 a', .int .i64 t'] (by omega) (by omega) hHeld) (fun hHeld => ?_)
        clear hK K
        set_option linter.unusedSimpArgs false in try simp only [Act.put, List.setIfInBounds_toArray, List.set_cons_zero, List.set_cons_succ]
        have hR : BoxF _ w.heap.size [.int .i64 d, .int .i64 l, .int .i64 f, .int .i64 s, .int .i64 o, .int .i64 ln, .int .i64 tn, .int .i64 c, .int .i64 k, .int .i64 a, .int .i64 t, .int .i64 c', .int .i64 k', .int .i64 a', .int .i64 t'] 29 := BoxF.setAll (vs := [.int .i64 d, .int .i64 l, .int .i64 f, .int .i64 s, .int .i64 o, .int .i64 ln, .int .i64 tn, .int .i64 c, .int .i64 k, .int .i64 a, .int .i64 t, .int .i64 c', .int .i64 k', .int .i64 a', .int .i64 t']) hR
        refine wpAnyH_take (i := 5) (oi := { dst := some 3, op := _, type := _, pos := _, after := _, guard := none }) (v := ?_) rfl (by kernel_rfl) (by kernel_rfl) (by kernel_rfl) (fun _ _ _ h => h) (Or.inl ⟨by rfl, ?_⟩) hHeld ?_
        rotate_left
        · (intro w hSw; clear hSw; go_simp; first | done | with_reducible rfl)
        set_option linter.unusedSimpArgs false in try simp only [Act.put, List.setIfInBounds_toArray, List.set_cons_zero, List.set_cons_succ]
        refine wpAnyH_take (i := 6) (oi := { dst := some 4, op := _, type := _, pos := _, after := _, guard := none }) (v := ?_) rfl (by kernel_rfl) (by kernel_rfl) (by kernel_rfl) (fun _ _ _ h => h) (Or.inl ⟨by rfl, ?_⟩) hHeld ?_
        rotate_left
        · (intro w hSw; clear hSw; go_simp; first | done | with_reducible rfl)
        set_option linter.unusedSimpArgs false in try simp only [Act.put, List.setIfInBounds_toArray, List.set_cons_zero, List.set_cons_succ]
        refine wpAnyH_take (i := 7) (oi := { dst := some 5, op := _, type := _, pos := _, after := _, guard := none }) (v := ?_) rfl (by kernel_rfl) (by kernel_rfl) (by kernel_rfl) (fun _ _ _ h => h) (Or.inl ⟨by rfl, ?_⟩) hHeld ?_
        rotate_left
        · (intro w hSw; clear hSw; go_simp; first | done | with_reducible rfl)
        set_option linter.unusedSimpArgs false in try simp only [Act.put, List.setIfInBounds_toArray, List.set_cons_zero, List.set_cons_succ]
        refine wpAnyH_done (by kernel_rfl) ?_ _
        refine NoPanic.normal ?_
        have hj := (jd_jd hHeld).2
        clear hHeld
        go_wp2_with fail
        go_meet
        exact ⟨_, _, _, rfl, rfl, rfl, hR, hj⟩
      exact AllReadyH.nil
    case rest =>
      obtain ⟨o1, n1, x1, rfl, rfl, rfl, hR, hB⟩ := hcut
      obtain ⟨z0, z1, z2, z3, z4, z5, z6, z7, z8, z9, z10, z11, z12, z13, z14, zf⟩ := hR.fifteen
      go_wp2_with fail
      exact bodyPost_ret (v := .tuple #[.agg #[.int .i64 d, .int .i64 l, .int .i64 f, .int .i64 s, .int .i64 o, .int .i64 ln, .int .i64 tn, .int .i64 c, .int .i64 k, .int .i64 a, .int .i64 t, .int .i64 c', .int .i64 k', .int .i64 a', .int .i64 t'], .int .i64 o1, .int .i64 n1, .int .i64 x1]) (by simp [results, Tryd.results17, go_sem, z0, z1, z2, z3, z4, z5, z6, z7, z8, z9, z10, z11, z12, z13, z14]) rfl ⟨⟨d, l, f, s, o, ln, tn, c, k, a, t, c', k', a', t', o1, n1, x1, rfl⟩, hB⟩
end Go.Proofs.YtpcghkciibbmgaaDoor
namespace Go.Proofs.YtpcghkciibbmgaaDoor
open Go.RowKit

theorem infoA6 : (Tryd.prog.info? 29).map (fun i => (i.zero, i.size, i.bytes)) = some (some (.agg #[.int .i64 0, .int .i64 0, .int .i64 0, .int .i64 0, .int .i64 0, .int .i64 0, .int .i64 0, .int .i64 0, .int .i64 0, .int .i64 0, .int .i64 0, .int .i64 0, .int .i64 0, .int .i64 0, .int .i64 0]), 15, 120) := by kernel_rfl
/-- The cells of a row of arms. -/
def cellsA : List Arm → List Value
  | [] => []
  | A :: r => A.ints.map (Value.int .i64) ++ cellsA r
theorem cellsA_len : ∀ X : List Arm, (cellsA X).length = X.length * 15
  | [] => rfl
  | A :: r => by rw [cellsA, List.length_append, List.length_map, cellsA_len r, List.length_cons, show A.ints.length = 15 from rfl]; omega
theorem cellsA_app (X : List Arm) (A : Arm) : cellsA (X ++ [A]) = cellsA X ++ A.ints.map (Value.int .i64) := by
  induction X with
  | nil => simp [cellsA]
  | cons B r ih => rw [List.cons_append, cellsA, ih, cellsA, List.append_assoc]
theorem cellsA_at : ∀ {X : List Arm} {k j : Nat} {A : Arm} {z : Int}, X[k]? = some A → A.ints[j]? = some z → (cellsA X)[k * 15 + j]? = some (.int .i64 z)
  | [], k, _, _, _, h, _ => by simp at h
  | B :: r, 0, j, A, z, h, hj => by
    simp at h
    subst h
    have hl : j < 15 := (List.getElem?_eq_some_iff.1 hj).1
    rw [cellsA, List.getElem?_append_left (by rw [List.length_map, show B.ints.length = 15 from rfl]; omega), show 0 * 15 + j = j by omega, List.getElem?_map, hj]; rfl
  | B :: r, k + 1, j, A, z, h, hj => by
    have e : (k + 1) * 15 + j - (B.ints.map (Value.int .i64)).length = k * 15 + j := by rw [List.length_map, show B.ints.length = 15 from rfl]; omega
    rw [cellsA, List.getElem?_append_right (by rw [List.length_map, show B.ints.length = 15 from rfl]; omega), e]
    exact cellsA_at (by simpa using h) hj
theorem rdA_owned {w : World} {B : Nat} {v : Value} {n : Nat} {X : List Arm} (h : w.ownsRow B 29 15 v n (cellsA X)) (hn : X.length = n) (hv : 0 < n) : ∃ g cap, v = .slice (some ⟨g, 0, none⟩) n cap ∧ RdA w (some ⟨g, 0, none⟩) n X := by
  obtain ⟨g, cap, rfl, _, hlt⟩ := World.ownsRow.form h hv
  refine ⟨g, cap, rfl, hn, fun _ => ⟨g, 0, rfl, hlt, fun k A hk j z hj => ?_⟩⟩
  have hk' : k < X.length := (List.getElem?_eq_some_iff.1 hk).1
  have hj' : j < 15 := (List.getElem?_eq_some_iff.1 hj).1
  rw [Nat.zero_add, World.ownsRow.cellAt h (k * 15 + j) (by omega)]
  exact cellsA_at hk hj
theorem rdA_any {w : World} {B : Nat} {v : Value} {n : Nat} {X : List Arm} (h : w.ownsRow B 29 15 v n (cellsA X)) (hn : X.length = n) : ∃ a cap, v = .slice a n cap ∧ RdA w a n X := by
  rcases Nat.eq_zero_or_pos n with h0 | h0
  · subst h0
    rcases h.2 with ⟨hv, _⟩ | ⟨g, cp, cur, hv, _⟩
    · exact ⟨none, 0, hv, hn, fun h => absurd h (by omega)⟩
    · exact ⟨_, cp, hv, hn, fun h => absurd h (by omega)⟩
  · obtain ⟨g, cp, hv, hr⟩ := rdA_owned h hn h0
    exact ⟨_, cp, hv, hr⟩
theorem own_kept {w w' : World} {B p : Nat} {t : TypeId} {size n : Nat} {v : Value} {xs : List Value} (h : w.ownsRow B t size v n xs) (hg : w.grownBy w' (some p)) (hp : p < B) : w'.ownsRow B t size v n xs :=
  h.kept hg (by cases e : v.ownBlock with
    | none => exact .inl rfl
    | some b => exact .inr (by have := (h.lt b e).1; intro e2; have := Option.some.inj e2; omega))
theorem cell_new15 (W : World) (L : List Value) (t : TypeId) : ∀ j u, L[j]? = some u → (W.alloc (.cells L.toArray t (0, 0))).cell? ((⟨W.heap.size, 0, none⟩ : Addr).add j) = some u := fun j u hj => by
  rw [Addr.add_mid, Nat.zero_add]
  exact ((BoxF.new W L t).at j).trans hj
/-- A row of arms of the call's own, or an empty one. -/
def DrewRow (w : World) (e : Ending) (w' : World) : Prop := ∃ (X : List Arm) (a : Option Addr) (cap : Nat), e = .returned (.slice a X.length cap) ∧ X.length ≤ 7 ∧ RdA w' a X.length X ∧ Below w.heap.size w w'
set_option maxRecDepth 100000 in
set_option maxHeartbeats 8000000 in
theorem drawSimp_any (x : Option Addr) (n cap : Nat) (w : World) (h : RdB w w.heap.size x n) (hn : n ≤ 65536) :
    Calls Tryd.prog 21 #[.slice x n cap] w (DrewRow w) := by
  obtain ⟨i0, hi, hz0, hz1, hz2⟩ := info_parts infoA6
  have hc := isCur_new cap h
  have hB0 : Below w.heap.size w (w.alloc (.cells #[.slice x n cap, .int .i64 0, .int .u64 0] 55 (0, 0))) := (Below.refl _ w).alloc (Nat.le_refl _) _
  have HC0 := Lib.hid (hc.alloc (.cells #[] 29 (0, 0)))
  have HB0 := Lib.hid (hB0.alloc (by simp) (.cells #[] 29 (0, 0)))
  have HO0 := Lib.hid (World.ownsRow_lit (e := 29) (size := 15) (base := w.heap.size + 1) (w.alloc (.cells #[.slice x n cap, .int .i64 0, .int .u64 0] 55 (0, 0))) #[] 0 (by simp) (by unfold maxLen; omega) rfl)
  clear h hc hB0
  go_enter Tryd.func21, Tryd.ntmps21
  go_wp2_with fail
  refine (pick_any w.heap.size w.heap.size x n cap _ _ HC0.out (by omega) hn 6 (by omega) (by omega)).mono ?_
  rintro e w1 ⟨⟨r, rfl, hr0, hr1⟩, hc1, hg1⟩
  have HC1 := Lib.hid hc1
  have HB1 := Lib.hid (HB0.out.grown hg1 (by simp; omega) (fun q hq => by cases hq; omega))
  have HO1 := Lib.hid (HO0.out.kept hg1 (.inr (by simp [Value.ownBlock])))
  clear hc1 hg1 HC0 HB0 HO0
  obtain ⟨rn, rfl⟩ : ∃ rn : Nat, r = (rn : Int) := ⟨r.toNat, by omega⟩
  have hrn : rn ≤ 5 := by omega
  clear hr0 hr1
  go_wp2_with fail
  go_loopg [4, 5] rn (fun gh v i wr => ∃ (X : List Arm) (q : Nat), q = gh ∧ q + X.length = rn ∧ i = .int .i64 (q : Int) ∧ IsCur wr w.heap.size w.heap.size x n cap (10 + 100 * X.length) ∧ wr.ownsRow (w.heap.size + 1) 29 15 v X.length (cellsA X) ∧ Below w.heap.size w wr)
  case atStart => exact ⟨[], rn, rfl, by simp, rfl, HC1.out.mono (by simp), by simpa [cellsA] using HO1.out, HB1.out⟩
  case round =>
    obtain ⟨X, q, rfl, hq, rfl, hc, ho, hb⟩ := hrel
    have HC := Lib.hid hc
    have HO := Lib.hid ho
    have HB := Lib.hid hb
    clear hc ho hb HC1 HB1 HO1
    have hlen := cellsA_len X
    by_cases hlt : 0 < q
    · obtain ⟨gh, rfl⟩ : ∃ gh, q = gh + 1 := ⟨q - 1, by omega⟩
      have e1 : decide ((0 : Int) < ((gh + 1 : Nat) : Int)) = true := decide_eq_true (by omega)
      go_wp2_with fail
      refine (arms_any w.heap.size w.heap.size x n cap _ _ HC.out (by omega) hn).mono ?_
      rintro e w2 ⟨⟨d, l, f, s, o, ln, tn, c, k, a, t, c', k', a', t', rfl⟩, hc2, hg2⟩
      have hsz := HB.out.size
      have hb2 := HB.out.grown hg2 HB.out.size (fun q hq => by cases hq; omega)
      have ho2 := own_kept HO.out hg2 (by omega)
      have hcA := hc2.alloc (.cells #[.int .i64 d, .int .i64 l, .int .i64 f, .int .i64 s, .int .i64 o, .int .i64 ln, .int .i64 tn, .int .i64 c, .int .i64 k, .int .i64 a, .int .i64 t, .int .i64 c', .int .i64 k', .int .i64 a', .int .i64 t'] 29 (0, 0))
      have hbA := hb2.alloc hb2.size (.cells #[.int .i64 d, .int .i64 l, .int .i64 f, .int .i64 s, .int .i64 o, .int .i64 ln, .int .i64 tn, .int .i64 c, .int .i64 k, .int .i64 a, .int .i64 t, .int .i64 c', .int .i64 k', .int .i64 a', .int .i64 t'] 29 (0, 0))
      have HC2 := Lib.hid hcA
      have HB2 := Lib.hid hbA
      have HO2 := Lib.hid ho2
      have hs2 : w.heap.size < w2.heap.size := Nat.lt_of_lt_of_le hc2.lt (Nat.le_refl _)
      clear hc2 hg2 hb2 ho2 hcA hbA HC HO HB hlen
      go_wp2_with (at_builtin; refine wpList_append_own _ rfl _ _ 49 rfl (w.heap.size + 1) 29 i0 _ 15 120 Tryd.underlying49 hi hz0 hz1 hz2 rfl (by decide) _ _ _ rfl (HO2.out.alloc _) ⟨w2.heap.size, 0, none⟩ 1 1 [.int .i64 d, .int .i64 l, .int .i64 f, .int .i64 s, .int .i64 o, .int .i64 ln, .int .i64 tn, .int .i64 c, .int .i64 k, .int .i64 a, .int .i64 t, .int .i64 c', .int .i64 k', .int .i64 a', .int .i64 t'] rfl rfl (cell_new15 w2 [.int .i64 d, .int .i64 l, .int .i64 f, .int .i64 s, .int .i64 o, .int .i64 ln, .int .i64 tn, .int .i64 c, .int .i64 k, .int .i64 a, .int .i64 t, .int .i64 c', .int .i64 k', .int .i64 a', .int .i64 t'] 29) (by simp [Value.oneCell']) (by unfold maxLen; omega) (by omega) (by simp; omega) ?_; intro v' w3 hown' hgrow hnil)
      go_wp2_with fail
      go_roundg gh
      case measure => omega
      case rel =>
        refine ⟨X ++ [⟨d, l, f, s, o, ln, tn, c, k, a, t, c', k', a', t'⟩], gh, rfl, by simp; omega, by go_num, ?_, ?_, ?_⟩
        · refine (HC2.out.kept hgrow (fun k hk => by have := (HO2.out.lt k hk).1; omega)).mono (by simp; omega)
        · rw [cellsA_app, List.length_append, List.length_singleton]
          exact hown'
        · exact HB2.out.grown hgrow (by simp; omega) (fun k hk => by have := (HO2.out.lt k hk).1; omega)
    · obtain rfl : q = 0 := by omega
      go_wp2_with fail
      refine (one_any w.heap.size w.heap.size x n cap _ _ HC.out (by omega) hn 10 (by omega) (by omega)).mono ?_
      rintro e w2 ⟨⟨b, rfl⟩, hc2, hg2⟩
      have hsz := HB.out.size
      have hb2 := HB.out.grown hg2 HB.out.size (fun q hq => by cases hq; omega)
      have ho2 := own_kept HO.out hg2 (by omega)
      cases b
      · clear HC HO HB
        obtain ⟨a, cp, rfl, hr⟩ := rdA_any ho2 rfl
        go_wp2_with fail
        go_ret
        exact ⟨X, a, cp, rfl, by omega, hr, hb2⟩
      · have HC2 := Lib.hid hc2
        have HB2 := Lib.hid hb2
        have HO2 := Lib.hid ho2
        clear hc2 hg2 hb2 ho2 HC HO HB
        go_wp2_with fail
        refine (anyArms_any w.heap.size w.heap.size x n cap _ _ HC2.out (by omega) hn).mono ?_
        rintro e w3 ⟨⟨d, l, f, s, o, ln, tn, c, k, a, t, c', k', a', t', rfl⟩, hc3, hg3⟩
        have hb3 := HB2.out.grown hg3 HB2.out.size (fun q hq => by cases hq; omega)
        have ho3 := own_kept HO2.out hg3 (by omega)
        have HB3 := Lib.hid (hb3.alloc hb3.size (.cells #[.int .i64 d, .int .i64 l, .int .i64 f, .int .i64 s, .int .i64 o, .int .i64 ln, .int .i64 tn, .int .i64 c, .int .i64 k, .int .i64 a, .int .i64 t, .int .i64 c', .int .i64 k', .int .i64 a', .int .i64 t'] 29 (0, 0)))
        have HO3 := Lib.hid ho3
        have hs3 : w.heap.size < w3.heap.size := Nat.lt_of_lt_of_le hc3.lt (Nat.le_refl _)
        clear hc3 hg3 hb3 ho3 HC2 HO2 HB2
        go_wp2_with (at_builtin; refine wpList_append_own _ rfl _ _ 49 rfl (w.heap.size + 1) 29 i0 _ 15 120 Tryd.underlying49 hi hz0 hz1 hz2 rfl (by decide) _ _ _ rfl (HO3.out.alloc _) ⟨w3.heap.size, 0, none⟩ 1 1 [.int .i64 d, .int .i64 l, .int .i64 f, .int .i64 s, .int .i64 o, .int .i64 ln, .int .i64 tn, .int .i64 c, .int .i64 k, .int .i64 a, .int .i64 t, .int .i64 c', .int .i64 k', .int .i64 a', .int .i64 t'] rfl rfl (cell_new15 w3 [.int .i64 d, .int .i64 l, .int .i64 f, .int .i64 s, .int .i64 o, .int .i64 ln, .int .i64 tn, .int .i64 c, .int .i64 k, .int .i64 a, .int .i64 t, .int .i64 c', .int .i64 k', .int .i64 a', .int .i64 t'] 29) (by simp [Value.oneCell']) (by unfold maxLen; omega) (by omega) (by simp; omega) ?_; intro v' w4 hown' hgrow hnil)
        have hown2 : w4.ownsRow (w.heap.size + 1) 29 15 v' (X.length + 1) (cellsA (X ++ [⟨d, l, f, s, o, ln, tn, c, k, a, t, c', k', a', t'⟩])) := by rw [cellsA_app]; exact hown'
        obtain ⟨g, cp, rfl, hr⟩ := rdA_owned (X := X ++ [⟨d, l, f, s, o, ln, tn, c, k, a, t, c', k', a', t'⟩]) hown2 (by simp) (by omega)
        have hb4 := HB3.out.grown hgrow (by simp; omega) (fun k hk => by have := (HO3.out.lt k hk).1; omega)
        clear hown' hown2 hgrow hnil
        go_wp2_with fail
        go_ret
        exact ⟨X ++ [⟨d, l, f, s, o, ln, tn, c, k, a, t, c', k', a', t'⟩], some ⟨g, 0, none⟩, cp, by simp, by simp; omega, by simpa using hr, hb4⟩
end Go.Proofs.YtpcghkciibbmgaaDoor
