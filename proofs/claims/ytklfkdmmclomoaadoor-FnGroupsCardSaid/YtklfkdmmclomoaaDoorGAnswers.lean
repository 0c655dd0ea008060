/- What the calls of FnGroups answer, at every group and every string. -/
import Derived.Test.YtklfkdmmclomoaaDoorGRead
import Derived.Test.YtklfkdmmclomoaaDoorRGroups3
import Derived.Test.YtklfkdmmclomoaaDoorRRows
import Derived.Test.YtklfkdmmclomoaaDoorDrawGroups
namespace Go.Proofs.YtklfkdmmclomoaaDoor
open Go.RowKit

theorem gtext_inj {c k a t C K A T : Int} (h : gOkB c k a t = true) (h' : gOkB C K A T = true) (he : gtextN c.toNat k.toNat a.toNat (t - 1).toNat = gtextN C.toNat K.toNat A.toNat (T - 1).toNat) : C = c ∧ K = k ∧ A = a ∧ T = t := by
  obtain ⟨g1, g2, g3, g4⟩ := gOk_out h
  obtain ⟨f1, f2, f3, f4⟩ := gOk_out h'
  obtain ⟨i, rfl⟩ : ∃ i : Nat, t = (i : Int) + 1 := ⟨(t - 1).toNat, by omega⟩
  obtain ⟨j, rfl⟩ : ∃ i : Nat, T = (i : Int) + 1 := ⟨(T - 1).toNat, by omega⟩
  have ei : ((i : Int) + 1 - 1).toNat = i := by omega
  have ej : ((j : Int) + 1 - 1).toNat = j := by omega
  rw [ei, ej] at he
  have h1 := runG_text (i := i) (by omega) h
  have h2 := runG_text (i := j) (by omega) h'
  rw [he, h2] at h1
  injection h1 with e1 h1
  injection h1 with e2 h1
  injection h1 with e3 e4
  exact ⟨by omega, by omega, by omega, by omega⟩
theorem rowL_sum {n : Int} (h1 : 1 ≤ n) (h6 : n ≤ 6) : (rowL n).sum = n := by
  rcases (show n = 1 ∨ n = 2 ∨ n = 3 ∨ n = 4 ∨ n = 5 ∨ n = 6 by omega) with rfl | rfl | rfl | rfl | rfl | rfl <;> rfl
theorem rowL_three (n : Int) : (rowL n).length ≤ 3 ∧ ∀ x ∈ rowL n, 0 ≤ x ∧ x ≤ 3 := by
  unfold rowL
  repeat' split
  all_goals simp
theorem group_answers (c k a t : Int) : ∃ (s0 : ByteArray) (ok : Bool) (b1 b2 b3 b4 : Int) (fine : Bool) (L : List Int) (known : Bool),
    (∀ W, GTabs W → Calls Tryd.prog 16 #[.agg #[.int .i64 c, .int .i64 k, .int .i64 a, .int .i64 t]] W fun e w' => e = .returned (.tuple #[.string s0, .bool ok]) ∧ Below W.heap.size W w') ∧
    (∀ W, GTabs W → Calls Tryd.prog 17 #[.string s0] W (AnsF W b1 b2 b3 b4 fine)) ∧
    (∀ W, Calls Tryd.prog 18 #[.agg #[.int .i64 c, .int .i64 k, .int .i64 a, .int .i64 t]] W fun e w' => e = .returned (.bool ok) ∧ Below W.heap.size W w') ∧
    (∀ W, GTabs W → Calls Tryd.prog 19 #[.agg #[.int .i64 c, .int .i64 k, .int .i64 a, .int .i64 t]] W fun e w' => e = .returned (.bool ok) ∧ Below W.heap.size W w') ∧
    (∀ W, RowsLie W → Calls Tryd.prog 21 #[.int .i64 c] W (Ans W L known)) ∧ L.length ≤ 3 ∧ (∀ x ∈ L, 0 ≤ x ∧ x ≤ 3) ∧
    (ok = false ∨ (ok = true ∧ b1 = c ∧ b2 = k ∧ b3 = a ∧ b4 = t ∧ fine = true ∧ known = true ∧ L.sum = c)) := by
  rcases Bool.eq_false_or_eq_true (gOkB c k a t) with h | h
  · have g := gOk_out h
    obtain ⟨i, hi⟩ : ∃ i : Nat, t = (i : Int) + 1 := ⟨(t - 1).toNat, by omega⟩
    have ei : (t - 1).toNat = i := by omega
    have hm := gtextN_max (c := c.toNat) (k := k.toNat) (a := a.toNat) (i := i) (by omega) (by omega) (by omega) (by omega) (by omega) (by omega) (by omega)
    obtain ⟨b1, b2, b3, b4, fine, hans, hp⟩ := parseGroup_impl (gtextN c.toNat k.toNat a.toNat i) (by omega)
    refine ⟨gtextN c.toNat k.toNat a.toNat i, true, b1, b2, b3, b4, fine, rowL c, true, fun W hT => ?_, hp, fun W => validGroup_spec c k a t W true h, fun W hT => validGroup_impl c k a t W true h hT.2.2.2, fun W hR => rows_impl c W g.1.1 g.1.2 hR, (rowL_three c).1, (rowL_three c).2, .inr ?_⟩
    · subst hi
      exact groupText_impl c k a i W (by omega) h hT
    · rcases hans with ⟨rfl, h1, h2⟩ | ⟨_, _, hno⟩
      · obtain ⟨rfl, rfl, rfl, rfl⟩ := gtext_inj h h1 (by rw [h2, ei])
        exact ⟨rfl, rfl, rfl, rfl, rfl, rfl, rfl, rowL_sum g.1.1 g.1.2⟩
      · exact absurd (by rw [ei]) (hno c k a t h)
  · obtain ⟨b1, b2, b3, b4, fine, _, hp⟩ := parseGroup_impl ⟨#[]⟩ (by decide)
    by_cases hc : 1 ≤ c ∧ c ≤ 6
    · exact ⟨⟨#[]⟩, false, b1, b2, b3, b4, fine, rowL c, true, fun W hT => groupText_impl_no c k a t W h hT.2.2.2, hp, fun W => validGroup_spec c k a t W false h, fun W hT => validGroup_impl c k a t W false h hT.2.2.2, fun W hR => rows_impl c W hc.1 hc.2 hR, (rowL_three c).1, (rowL_three c).2, .inl rfl⟩
    · exact ⟨⟨#[]⟩, false, b1, b2, b3, b4, fine, [], false, fun W hT => groupText_impl_no c k a t W h hT.2.2.2, hp, fun W => validGroup_spec c k a t W false h, fun W hT => validGroup_impl c k a t W false h hT.2.2.2, fun W _ => rows_impl_no c W (by omega), by simp, by simp, .inl rfl⟩
theorem read_answers (t : ByteArray) (ht : t.size ≤ 1048576) : ∃ (g1 g2 g3 g4 : Int) (read : Bool) (u : ByteArray) (told : Bool),
    (∀ W, GTabs W → Calls Tryd.prog 17 #[.string t] W (AnsF W g1 g2 g3 g4 read)) ∧
    (∀ W, GTabs W → Calls Tryd.prog 16 #[.agg #[.int .i64 g1, .int .i64 g2, .int .i64 g3, .int .i64 g4]] W fun e w' => e = .returned (.tuple #[.string u, .bool told]) ∧ Below W.heap.size W w') ∧
    (read = false ∨ (read = true ∧ told = true ∧ u = t)) := by
  obtain ⟨g1, g2, g3, g4, read, hans, hp⟩ := parseGroup_impl t ht
  rcases hans with ⟨rfl, h1, h2⟩ | ⟨rfl, ⟨rfl, rfl, rfl, rfl⟩, _⟩
  · have g := gOk_out h1
    obtain ⟨i, rfl⟩ : ∃ i : Nat, g4 = (i : Int) + 1 := ⟨(g4 - 1).toNat, by omega⟩
    have ei : ((i : Int) + 1 - 1).toNat = i := by omega
    rw [ei] at h2
    exact ⟨g1, g2, g3, _, true, _, true, hp, fun W hT => groupText_impl g1 g2 g3 i W (by omega) h1 hT, .inr ⟨rfl, rfl, h2⟩⟩
  · exact ⟨0, 0, 0, 0, false, _, false, hp, fun W hT => groupText_impl_no 0 0 0 0 W rfl hT.2.2.2, .inl rfl⟩
theorem join_answers (c k a t c' k' a' t' : Int) : ∃ (j1 j2 j3 j4 : Int) (joined : Bool),
    (∀ W, GTabs W → Calls Tryd.prog 23 #[.agg #[.int .i64 c, .int .i64 k, .int .i64 a, .int .i64 t], .agg #[.int .i64 c', .int .i64 k', .int .i64 a', .int .i64 t']] W (AnsF W j1 j2 j3 j4 joined)) ∧
    (∀ W, Calls Tryd.prog 24 #[.agg #[.int .i64 c, .int .i64 k, .int .i64 a, .int .i64 t], .agg #[.int .i64 c', .int .i64 k', .int .i64 a', .int .i64 t']] W (AnsF W j1 j2 j3 j4 joined)) ∧
    (joined = false ∨ (joined = true ∧ j1 = c + c' ∧ IntKind.i64.wrap (c + c') = c + c')) := by
  obtain ⟨r, hr⟩ : ∃ r, gJoinB c k a t c' k' a' t' = r := ⟨_, rfl⟩
  have h1 := fun W (hT : GTabs W) => join_impl c k a t c' k' a' t' W r hr hT.2.2.2
  have h2 := fun W => join_spec c k a t c' k' a' t' W r hr
  cases r
  · exact ⟨0, 0, 0, 0, false, h1, h2, .inl rfl⟩
  · refine ⟨c + c', k, a, t, true, h1, h2, .inr ⟨rfl, rfl, ?_⟩⟩
    have hg : gOkB c k a t = true ∧ gOkB c' k' a' t' = true := by
      unfold gJoinB at hr
      simp only [Bool.and_eq_true] at hr
      exact ⟨hr.1, hr.2.1⟩
    have a1 := (gOk_out hg.1).1
    have a2 := (gOk_out hg.2).1
    exact IntWalk.i64_in _ (by omega)
/-- The sum of the first rows. -/
theorem sum_bound (L : List Int) (h : ∀ x ∈ L, 0 ≤ x ∧ x ≤ 3) : ∀ k, 0 ≤ (L.take k).sum ∧ (L.take k).sum ≤ 3 * (k : Int) := by
  intro k
  induction k with
  | zero => simp
  | succ k ih =>
    rcases Nat.lt_or_ge k L.length with hk | hk
    · rw [List.take_succ_eq_append_getElem hk, List.sum_append]
      have := h L[k] (List.getElem_mem hk)
      simp only [List.sum_cons, List.sum_nil]
      omega
    · rw [List.take_of_length_le (by omega)]
      rw [List.take_of_length_le hk] at ih
      omega
theorem sum_snoc (L : List Int) (k : Nat) (hk : k < L.length) : (L.take (k + 1)).sum = (L.take k).sum + L.getD k 0 := by
  rw [List.take_succ_eq_append_getElem hk, List.sum_append]
  simp [List.getD, hk]
end Go.Proofs.YtklfkdmmclomoaaDoor
