/- Joint contracts of FnAllowed. -/
import Derived.Test.YtmmbhglmafnfpabDoorE8AllowM
import Derived.Test.YtmmbhglmafnfpabDoorE8LenS
import Derived.Test.YtmmbhglmafnfpabDoorE8Poor
import Derived.Test.YtmmbhglmafnfpabDoorE8Rows
namespace Go.Proofs.YtmmbhglmafnfpabDoor
open Go.RowKit

theorem around_step (d l f s o n x c k a t c' k' a' t' : Int) (w : World) (hA : AttsLie w) (X : List Int) (h : aOkB d l f s o n x c k a t c' k' a' t' = true) (hg : gNoB c' k' a' t' = false) (hX : ∀ y : Int, 1 ≤ y ∧ y ≤ 9 → X.contains y = !onL y (tincL d f s)) (y : Int) (hy : 1 ≤ y ∧ y ≤ 9) :
    ∃ (R : List Fnd) (u : Bool), R.length ≤ 3 ∧ R.any (fun F => F.p == 3) = u ∧ X.contains y = (!u) ∧ ∀ W, Below w.heap.size w W → Calls Tryd.prog 11 #[.agg #[.int .i64 d, .int .i64 l, .int .i64 f, .int .i64 s, .int .i64 o, .int .i64 n, .int .i64 x, .int .i64 c, .int .i64 k, .int .i64 a, .int .i64 t, .int .i64 c', .int .i64 k', .int .i64 a', .int .i64 y]] W (AnsFn W R true) := by
  obtain ⟨h1, h2⟩ := around_ok h hg hy
  refine ⟨FA d f s x t y, onL y (tincL d f s), FL_len _ _ _ 3, h2, hX y hy, fun W hb => ?_⟩
  exact find_impl d l f s o n x c k a t c' k' a' y W true h1 (fun _ => (aOk_out h1).1) (hA.below hb)
theorem len_both (d l f s o n x c k a t c' k' a' t' : Int) (w : World) (hA : AttsLie w) :
    ∃ (X R : List Fnd) (ok : Bool), X.length ≤ R.length ∧ R.length ≤ 3 ∧ (∀ W, Calls Tryd.prog 15 #[.agg #[.int .i64 d, .int .i64 l, .int .i64 f, .int .i64 s, .int .i64 o, .int .i64 n, .int .i64 x, .int .i64 c, .int .i64 k, .int .i64 a, .int .i64 t, .int .i64 c', .int .i64 k', .int .i64 a', .int .i64 t']] W (AnsFn W X ok)) ∧ (∀ W, Below w.heap.size w W → Calls Tryd.prog 14 #[.agg #[.int .i64 d, .int .i64 l, .int .i64 f, .int .i64 s, .int .i64 o, .int .i64 n, .int .i64 x, .int .i64 c, .int .i64 k, .int .i64 a, .int .i64 t, .int .i64 c', .int .i64 k', .int .i64 a', .int .i64 t']] W (AnsFn W X ok)) ∧ (∀ W, Below w.heap.size w W → Calls Tryd.prog 11 #[.agg #[.int .i64 d, .int .i64 l, .int .i64 f, .int .i64 s, .int .i64 o, .int .i64 n, .int .i64 x, .int .i64 c, .int .i64 k, .int .i64 a, .int .i64 t, .int .i64 c', .int .i64 k', .int .i64 a', .int .i64 t']] W (AnsFn W R ok)) := by
  obtain ⟨r, hr⟩ : ∃ r, aOkB d l f s o n x c k a t c' k' a' t' = r := ⟨_, rfl⟩
  have hI : ∀ W, Below w.heap.size w W → Calls Tryd.prog 11 #[.agg #[.int .i64 d, .int .i64 l, .int .i64 f, .int .i64 s, .int .i64 o, .int .i64 n, .int .i64 x, .int .i64 c, .int .i64 k, .int .i64 a, .int .i64 t, .int .i64 c', .int .i64 k', .int .i64 a', .int .i64 t']] W (AnsFn W (if r = true then FA d f s x t t' else []) r) := fun W hb => find_impl d l f s o n x c k a t c' k' a' t' W r hr (fun e => (aOk_out (hr.trans e)).1) (hA.below hb)
  refine ⟨LF o (if r = true then FA d f s x t t' else []), if r = true then FA d f s x t t' else [], r, LF_len _ _, ?_, ?_, ?_, hI⟩
  · cases r
    · simp
    · exact FL_len _ _ _ 3
  · intro W
    cases r
    · rw [show LF o (if false = true then FA d f s x t t' else []) = [] by unfold LF; split <;> rfl]
      exact lenient_spec_no d l f s o n x c k a t c' k' a' t' W hr
    · exact lenient_spec_yes d l f s o n x c k a t c' k' a' t' W hr (FA d f s x t t') (FL_len _ _ _ 3) (fun W' => l8Findings_any d l f s o n x c k a t c' k' a' t' W' hr)
  · intro W hb
    refine lenient_impl d l f s o n x c k a t c' k' a' t' W _ r ?_ ?_ (fun W' hb' => hI W' (hb.trans (hb'.mono hb.size)))
    · cases r
      · exact .inl (by simp)
      · exact FL_parts _ _ _
    · cases r
      · simp
      · exact FL_len _ _ _ 3
theorem poor_both (d l f s : Int) : ∃ (p ok : Bool), (∀ W, Calls Tryd.prog 19 #[.agg #[.int .i64 d, .int .i64 l, .int .i64 f, .int .i64 s]] W fun e w' => e = .returned (.tuple #[.bool p, .bool ok]) ∧ Below W.heap.size W w') ∧ (∀ W, Calls Tryd.prog 18 #[.agg #[.int .i64 d, .int .i64 l, .int .i64 f, .int .i64 s]] W fun e w' => e = .returned (.tuple #[.bool p, .bool ok]) ∧ Below W.heap.size W w') := by
  by_cases h : FOk d l f s
  · exact ⟨_, true, fun W => poor_spec d l f s W h, fun W => poor_impl d l f s W h⟩
  · exact ⟨false, false, fun W => poor_spec_no d l f s W h, fun W => poor_impl_no d l f s W h⟩
/-- What is held in the loop of FnAllowed. -/
def LS8 (w : World) (q : Nat) (L : List Value) (p : Option Addr) (N : Nat) (X : List Int) (W : World) : Prop := BoxF W q L 29 ∧ RdI W p N X ∧ Below w.heap.size w W
theorem LS8.below {w : World} {q : Nat} {L : List Value} {p : Option Addr} {N : Nat} {X : List Int} {W W' : World} (h : LS8 w q L p N X W) (hb : Below W.heap.size W W') : LS8 w q L p N X W' :=
  ⟨h.1.below hb, h.2.1.below hb, h.2.2.trans (hb.mono h.2.2.size)⟩
end Go.Proofs.YtmmbhglmafnfpabDoor
