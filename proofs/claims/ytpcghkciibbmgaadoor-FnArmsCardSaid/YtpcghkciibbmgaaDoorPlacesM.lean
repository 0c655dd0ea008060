/- The cells of a draft's tinctures, one by one: what loops over its places leave. -/
import Derived.Test.YtpcghkciibbmgaaDoorPlaces2
import Derived.Test.YtpcghkciibbmgaaDoorArms4
namespace Go.Proofs.YtpcghkciibbmgaaDoor
open Go.RowKit

/-- Each of these cells turned by g. -/
def overL (g : Int → Int) (L : List Nat) (X : List Int) : List Int := L.foldl (fun X j => X.set j (g (X.getD j 0))) X
theorem overL_snoc (g : Int → Int) (L : List Nat) (j : Nat) (X : List Int) : overL g (L ++ [j]) X = (overL g L X).set j (g ((overL g L X).getD j 0)) := by simp [overL, List.foldl_append]
theorem overL_len (g : Int → Int) : ∀ (L : List Nat) (X : List Int), (overL g L X).length = X.length
  | [], _ => rfl
  | j :: r, X => by
    show (overL g r (X.set j (g (X.getD j 0)))).length = _
    rw [overL_len g r]; simp
theorem takeN_succ {L : List Nat} {k j : Nat} (h : L[k]? = some j) : L.take (k + 1) = L.take k ++ [j] := by rw [List.take_add_one, h]; rfl
theorem atN_of_lt {L : List Nat} {k n : Nat} (hL : L.length = n) (hk : k < n) : ∃ j, L[k]? = some j ∧ j ∈ L :=
  ⟨L[k]'(by omega), List.getElem?_eq_getElem (by omega), List.getElem_mem _⟩
theorem getI {X : List Int} {j : Nat} (h : j < X.length) : (X.map (Value.int .i64))[j]? = some (.int .i64 (X.getD j 0)) := by
  rw [List.getElem?_map, List.getElem?_eq_getElem h]
  simp [List.getD, h]
theorem setI (X : List Int) (j : Nat) (z : Int) : (X.map (Value.int .i64)).set j (.int .i64 z) = (X.set j z).map (Value.int .i64) := by rw [List.map_set]
theorem set_same (X : List Int) (j : Nat) : X.set j (X.getD j 0) = X := by
  apply List.ext_getElem?
  intro i
  rw [List.getElem?_set]
  by_cases h : j = i
  · subst h
    by_cases h2 : j < X.length
    · simp [h2, List.getD]
    · simp [h2]
  · simp [h]
theorem ptrs_at {b k j : Nat} {L : List Nat} (h : L[k]? = some j) : (ptrs b L)[k]? = some (.pointer (some ⟨b, j, none⟩)) := by
  unfold ptrs; rw [List.getElem?_map, h]; rfl
theorem placesL_lt (d o : Int) (z1 z2 : Bool) : ∀ j ∈ placesL d o z1 z2, j < 15 := by
  intro j hj
  unfold placesL furtherL at hj
  by_cases h0 : d = 0 <;> cases h1 : (o == 0) <;> cases z1 <;> cases z2 <;> simp [h0, h1] at hj <;> omega
theorem placesL_len (d o : Int) (z1 z2 : Bool) : (placesL d o z1 z2).length ≤ 5 := by
  unfold placesL furtherL
  by_cases h0 : d = 0 <;> cases h1 : (o == 0) <;> cases z1 <;> cases z2 <;> simp [h0]
theorem placesL_pos (d o : Int) (z1 z2 : Bool) : 0 < (placesL d o z1 z2).length := by
  unfold placesL
  by_cases h0 : d = 0 <;> simp [h0]
/-- Valid arms have no tincture where they have no layer. -/
theorem aOk_zero {d l f s o n x c k a t c' k' a' t' : Int} (h : aOkB d l f s o n x c k a t c' k' a' t' = true) : (d = 0 → s = 0) ∧ (o = 0 → x = 0) ∧ 0 ≤ o := by
  unfold aOkB at h
  simp only [Bool.and_eq_true] at h
  obtain ⟨h1, h2, _, h4⟩ := h
  have h1 := of_decide_eq_true h1
  have h2 := of_decide_eq_true h2
  refine ⟨fun e => ?_, fun e => ?_, h2.1⟩
  · rcases h1.2.2.2 with q | q
    · exact q.2.2
    · exact absurd e q.1
  · rw [if_pos e] at h4
    simp only [Bool.and_eq_true] at h4
    exact eq_of_beq h4.2.1
theorem gNo_zero {c k a t : Int} (h : gNoB c k a t = true) : t = 0 := (of_decide_eq_true h).2.2.2
theorem overL_ok {g : Int → Int} (g0 : g 0 = 0) {d l f s o n x c k a t c' k' a' t' : Int} (h : aOkB d l f s o n x c k a t c' k' a' t' = true) :
    overL g (placesL d o (gNoB c k a t) (gNoB c' k' a' t')) [d, l, f, s, o, n, x, c, k, a, t, c', k', a', t'] = [d, l, g f, g s, o, n, g x, c, k, a, g t, c', k', a', g t'] := by
  obtain ⟨h1, h2, _⟩ := aOk_zero h
  have h3 := gNo_zero (c := c) (k := k) (a := a) (t := t)
  have h4 := gNo_zero (c := c') (k := k') (a := a') (t := t')
  clear h
  generalize gNoB c k a t = z1 at *
  generalize gNoB c' k' a' t' = z2 at *
  have e1 : (if d = 0 then s else g s) = g s := by
    by_cases e : d = 0
    · rw [if_pos e, h1 e, g0]
    · rw [if_neg e]
  have e2 : (if o = 0 then x else g x) = g x := by
    by_cases e : o = 0
    · rw [if_pos e, h2 e, g0]
    · rw [if_neg e]
  have e3 : (if z1 = true then t else g t) = g t := by
    by_cases e : z1 = true
    · rw [if_pos e, h3 e, g0]
    · rw [if_neg e]
  have e4 : (if z2 = true then t' else g t') = g t' := by
    by_cases e : z2 = true
    · rw [if_pos e, h4 e, g0]
    · rw [if_neg e]
  rw [← e1, ← e2, ← e3, ← e4]
  clear e1 e2 e3 e4 h1 h2 h3 h4 g0
  unfold placesL furtherL overL
  by_cases q0 : d = 0 <;> by_cases q1 : o = 0 <;> cases z1 <;> cases z2 <;> simp [q0, q1]
theorem overL_tl {d l f s o n x c k a t c' k' a' t' : Int} (h : aOkB d l f s o n x c k a t c' k' a' t' = true) :
    (placesL d o (gNoB c k a t) (gNoB c' k' a' t')).map (fun j => [d, l, f, s, o, n, x, c, k, a, t, c', k', a', t'].getD j 0) = armTL d f s o x (gNoB c k a t) (gNoB c' k' a' t') t t' := by
  obtain ⟨_, _, h3⟩ := aOk_zero h
  clear h
  generalize gNoB c k a t = z1 at *
  generalize gNoB c' k' a' t' = z2 at *
  unfold placesL furtherL armTL tincL
  by_cases q0 : d = 0 <;> by_cases q1 : o = 0
  · have : ¬ (0 : Int) < 0 := by omega
    cases z1 <;> cases z2 <;> simp [q0, q1]
  · have : (0 : Int) < o := by omega
    cases z1 <;> cases z2 <;> simp [q0, q1, this]
  · cases z1 <;> cases z2 <;> simp [q0, q1]
  · have : (0 : Int) < o := by omega
    cases z1 <;> cases z2 <;> simp [q0, q1, this]
end Go.Proofs.YtpcghkciibbmgaaDoor
