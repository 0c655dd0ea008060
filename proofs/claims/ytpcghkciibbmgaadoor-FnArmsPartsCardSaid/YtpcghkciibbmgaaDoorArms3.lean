/- Contracts: the model's layers, tinctures and totals of arms. -/
import Derived.Test.YtpcghkciibbmgaaDoorArms2
import Derived.Deep.AppendLies
import Derived.Maps.AppendAt
import Derived.IntWalk
namespace Go.Proofs.YtpcghkciibbmgaaDoor
open Go.RowKit

theorem row_low {w : World} {b b' : Nat} {e : TypeId} {size : Nat} {v : Value} {n : Nat} {xs : List Value} (h : w.ownsRow b e size v n xs) (hb : b' ≤ b) : w.ownsRow b' e size v n xs := by
  obtain ⟨h1, h2⟩ := h
  refine ⟨h1, ?_⟩
  rcases h2 with h2 | ⟨g, cap, cur, hv, hg, r⟩
  · exact .inl h2
  · exact .inr ⟨g, cap, cur, hv, by omega, r⟩
def layN (o : Int) (z1 z2 : Bool) : Int := 1 + (if 0 < o then 1 else 0) + (if z1 = true then 0 else 1) + (if z2 = true then 0 else 1)
set_option maxHeartbeats 4000000 in
theorem l5Layers_any (d l f s o n x c k a t c' k' a' t' : Int) (w : World) :
    Calls Tryd.prog 45 #[.agg #[.int .i64 d, .int .i64 l, .int .i64 f, .int .i64 s, .int .i64 o, .int .i64 n, .int .i64 x, .int .i64 c, .int .i64 k, .int .i64 a, .int .i64 t, .int .i64 c', .int .i64 k', .int .i64 a', .int .i64 t']] w fun e w' => e = .returned (.int .i64 (layN o (gNoB c k a t) (gNoB c' k' a' t'))) ∧ Below w.heap.size w w' := by
  obtain ⟨z1, h1⟩ : ∃ p, gNoB c k a t = p := ⟨_, rfl⟩
  obtain ⟨z2, h2⟩ : ∃ p, gNoB c' k' a' t' = p := ⟨_, rfl⟩
  obtain ⟨p, h3⟩ : ∃ p, decide (0 < o) = p := ⟨_, rfl⟩
  have C1 := Lib.hid (fun W => l4None_any c k a t W z1 h1)
  have C2 := Lib.hid (fun W => l4None_any c' k' a' t' W z2 h2)
  have hR : layN o (gNoB c k a t) (gNoB c' k' a' t') = 1 + (if p = true then 1 else 0) + (if z1 = true then 0 else 1) + (if z2 = true then 0 else 1) := by
    unfold layN
    rw [h1, h2, ← h3]
    by_cases h : 0 < o <;> simp [h]
  rw [hR]
  have BX := Lib.hid (BoxF.new w [.int .i64 d, .int .i64 l, .int .i64 f, .int .i64 s, .int .i64 o, .int .i64 n, .int .i64 x, .int .i64 c, .int .i64 k, .int .i64 a, .int .i64 t, .int .i64 c', .int .i64 k', .int .i64 a', .int .i64 t'] 29)
  have BB : Hid (Below w.heap.size w (w.alloc (.cells #[.int .i64 d, .int .i64 l, .int .i64 f, .int .i64 s, .int .i64 o, .int .i64 n, .int .i64 x, .int .i64 c, .int .i64 k, .int .i64 a, .int .i64 t, .int .i64 c', .int .i64 k', .int .i64 a', .int .i64 t'] 29 (0, 0)))) := Lib.hid ((Below.refl _ w).alloc (Nat.le_refl _) _)
  clear h1 h2 hR
  cases p <;> cases z1 <;> cases z2
  all_goals
    have bx := BX.out
    obtain ⟨x0, x1, x2, x3, x4, x5, x6, x7, x8, x9, x10, x11, x12, x13, x14, xf⟩ := bx.fifteen
    go_enter Tryd.func45, Tryd.ntmps45
    go_wp2_with fail
    refine (C1.out _).mono ?_
    rintro e w1 ⟨rfl, g1⟩
    clear x0 x1 x2 x3 x4 x5 x6 x7 x8 x9 x10 x11 x12 x13 x14 xf
    have BX1 := Lib.hid (bx.below g1)
    have BB1 := Lib.hid (BB.out.trans (g1.mono BB.out.size))
    clear g1 bx
    have bx := BX1.out
    obtain ⟨x0, x1, x2, x3, x4, x5, x6, x7, x8, x9, x10, x11, x12, x13, x14, xf⟩ := bx.fifteen
    go_wp2_with fail
    refine (C2.out _).mono ?_
    rintro e w2 ⟨rfl, g1⟩
    clear x0 x1 x2 x3 x4 x5 x6 x7 x8 x9 x10 x11 x12 x13 x14 xf
    have BX2 := Lib.hid (bx.below g1)
    have BB2 := Lib.hid (BB1.out.trans (g1.mono BB1.out.size))
    clear g1 bx
    have bx := BX2.out
    obtain ⟨x0, x1, x2, x3, x4, x5, x6, x7, x8, x9, x10, x11, x12, x13, x14, xf⟩ := bx.fifteen
    go_wp2_with fail
    go_ret
    exact ⟨rfl, BB2.out⟩
theorem aOk_counts {d l f s o n x c k a t c' k' a' t' : Int} (h : aOkB d l f s o n x c k a t c' k' a' t' = true) : (0 ≤ c ∧ c ≤ 6) ∧ 0 ≤ c' ∧ c' ≤ 6 := by
  have g : ∀ {c k a t : Int}, (gNoB c k a t || gOkB c k a t) = true → 0 ≤ c ∧ c ≤ 6 := fun {c k a t} h => by
    rcases Bool.or_eq_true_iff.1 h with h | h
    · have : c = 0 ∧ k = 0 ∧ a = 0 ∧ t = 0 := by simpa [gNoB] using h
      omega
    · have := (gOk_out h).1
      omega
  unfold aOkB at h
  simp only [Bool.and_eq_true] at h
  refine ⟨?_, g h.2.2.1⟩
  have h4 := h.2.2.2
  split at h4
  · simp only [Bool.and_eq_true] at h4
    exact g (by rw [h4.2.2]; rfl)
  · simp only [Bool.and_eq_true] at h4
    exact g h4.2.2
end Go.Proofs.YtpcghkciibbmgaaDoor
