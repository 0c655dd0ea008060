/- Plain facts: a sealed string is recovered, and one changed byte of it is detected. Nothing here speaks of the program. -/
import Derived.Test.YtacpacllpjddlaaDoorVerify
import Derived.Test.YtacpacllpjddlaaDoorPMath
namespace Go.Proofs.YtacpacllpjddlaaDoor

theorem sumStep_inj {a b : Nat} {c : UInt8} (ha : a < 999979) (hb : b < 999979) (h : sumStep a c = sumStep b c) : a = b := by
  unfold sumStep at h
  omega
theorem sumStep_ne {a : Nat} {b c : UInt8} (h : sumStep a b = sumStep a c) : b = c := by
  unfold sumStep at h
  have h1 := b.toNat_lt
  have h2 := c.toNat_lt
  exact UInt8.toNat_inj.1 (by omega)
theorem fold_inj (l : List UInt8) : ∀ a b, a < 999979 → b < 999979 → l.foldl sumStep a = l.foldl sumStep b → a = b := by
  induction l with
  | nil => intro a b _ _ h; exact h
  | cons c l ih => intro a b ha hb h; exact sumStep_inj ha hb (ih _ _ (Nat.mod_lt _ (by omega)) (Nat.mod_lt _ (by omega)) h)
theorem sum_change (u v : List UInt8) (b c : UInt8) (h : sumOf (u ++ b :: v) = sumOf (u ++ c :: v)) : b = c := by
  unfold sumOf at h
  rw [List.foldl_append, List.foldl_append] at h
  exact sumStep_ne (fold_inj v _ _ (Nat.mod_lt _ (by omega)) (Nat.mod_lt _ (by omega)) h)

def decOf (l : List UInt8) : List UInt8 := Lib.itoa (sumOf l : Int)
theorem decOf_no (l : List UInt8) : (35 : UInt8) ∉ decOf l := by
  have h0 : decOf l = Lib.decDigits (sumOf l) := by unfold decOf Lib.itoa; rw [if_neg (by omega)]; rfl
  rw [h0]
  intro h
  have h1 := (dec_isDig _ _ h).1
  exact absurd h1 (by decide)
theorem decOf_inj {l m : List UInt8} (h : decOf l = decOf m) : sumOf l = sumOf m := by have := itoa_inj h; omega

theorem mark_unique (a : List UInt8) : ∀ (t b d : List UInt8), (35 : UInt8) ∉ a → (35 : UInt8) ∉ t → a ++ 35 :: b = t ++ 35 :: d → a = t ∧ b = d := by
  induction a with
  | nil =>
    intro t b d _ ht h
    cases t with
    | nil => exact ⟨rfl, by simpa using h⟩
    | cons e r => simp at h; exact absurd (by rw [h.1]; simp) ht
  | cons e r ih =>
    intro t b d ha ht h
    cases t with
    | nil => simp at h; exact absurd (by rw [h.1]; simp) ha
    | cons f s =>
      simp at h
      obtain ⟨rfl, h⟩ := h
      obtain ⟨h1, h2⟩ := ih s b d (fun hm => ha (by simp [hm])) (fun hm => ht (by simp [hm])) h
      exact ⟨by rw [h1], h2⟩

theorem split_at {l : List UInt8} {k : Nat} (h : k < l.length) : ∃ u b v, l = u ++ b :: v ∧ u.length = k ∧ l[k]? = some b ∧ ∀ c, l.set k c = u ++ c :: v := by
  refine ⟨l.take k, l[k], l.drop (k + 1), ?_, by simp; omega, by simp [h], fun c => ?_⟩
  · rw [← List.drop_eq_getElem_cons h, List.take_append_drop]
  · rw [List.set_eq_take_append_cons_drop, if_pos h]

theorem one_change (x t : List UInt8) (k : Nat) (c : UInt8) (hx : (35 : UInt8) ∉ x) (ht : (35 : UInt8) ∉ t) (hk : k < (x ++ 35 :: decOf x).length) (hc : (x ++ 35 :: decOf x)[k]? ≠ some c)
    (h : (x ++ 35 :: decOf x).set k c = t ++ 35 :: decOf t) : False := by
  rcases Nat.lt_trichotomy k x.length with h1 | h1 | h1
  · rw [List.set_append_left _ _ h1] at h
    rw [List.getElem?_append_left h1] at hc
    obtain ⟨u, b, v, hxe, hu, hb, hset⟩ := split_at h1
    rw [hset c] at h
    by_cases h35 : c = 35
    · subst h35
      rw [List.append_assoc, List.cons_append] at h
      have hu35 : (35 : UInt8) ∉ u := fun hm => hx (by rw [hxe]; simp [hm])
      have h2 := (mark_unique u t _ _ hu35 ht h).2
      exact decOf_no t (by rw [← h2]; simp)
    · have hx' : (35 : UInt8) ∉ u ++ c :: v := by
        intro hm
        rcases List.mem_append.1 hm with hm | hm
        · exact hx (by rw [hxe]; simp [hm])
        · rcases List.mem_cons.1 hm with hm | hm
          · exact h35 hm.symm
          · exact hx (by rw [hxe]; simp [hm])
      obtain ⟨h2, h3⟩ := mark_unique _ t _ _ hx' ht h
      have h4 := decOf_inj h3
      rw [← h2, hxe] at h4
      have h5 := sum_change u v b c h4
      rw [h5] at hb
      exact hc hb
  · subst h1
    rw [List.set_append_right _ _ (Nat.le_refl _), Nat.sub_self, List.set_cons_zero] at h
    have h35 : c ≠ 35 := by
      intro e
      rw [List.getElem?_append_right (Nat.le_refl _), Nat.sub_self] at hc
      exact hc (by rw [e]; rfl)
    have hno : (35 : UInt8) ∉ x ++ c :: decOf x := by
      intro hm
      rcases List.mem_append.1 hm with hm | hm
      · exact hx hm
      · rcases List.mem_cons.1 hm with hm | hm
        · exact h35 hm.symm
        · exact decOf_no x hm
    exact hno (by rw [h]; simp)
  · obtain ⟨j, rfl⟩ : ∃ j, k = x.length + (j + 1) := ⟨k - x.length - 1, by omega⟩
    rw [List.set_append_right _ _ (by omega), show x.length + (j + 1) - x.length = j + 1 from by omega, List.set_cons_succ] at h
    rw [List.getElem?_append_right (by omega), show x.length + (j + 1) - x.length = j + 1 from by omega, List.getElem?_cons_succ] at hc
    obtain ⟨h2, h3⟩ := mark_unique x t _ _ hx ht h
    rw [← h2] at h3
    have hj : j < (decOf x).length := by simp at hk; omega
    apply hc
    rw [← h3]
    simp [hj]

theorem no_of_has {l : List UInt8} (h : has l 35 = false) : (35 : UInt8) ∉ l := by
  intro hm
  unfold has at h
  simp at h
  exact h hm
theorem seal_list (x : ByteArray) : (sealOf x).data.toList = x.data.toList ++ 35 :: decOf x.data.toList := by
  have e : sealOf x = strOf (x.data.toList ++ 35 :: decOf x.data.toList) := by
    unfold sealOf decOf
    rw [show x ++ { data := #[35] } = strOf (x.data.toList ++ [35]) from ByteArray.mk_append_mk x.data.toList [35], strOf_append, List.append_assoc]
    rfl
  rw [e]; rfl
theorem before_mark (x d : List UInt8) (h : (35 : UInt8) ∉ x) : before 35 (x ++ 35 :: d) = x := by
  induction x with
  | nil => simp [before]
  | cons c r ih =>
    have h1 : c ≠ 35 := fun e => h (by rw [e]; simp)
    have h2 := ih (fun hm => h (by simp [hm]))
    simp [before, h1, h2]
theorem body_seal {x : ByteArray} (h : has x.data.toList 35 = false) : bodyOf (sealOf x) = x := by
  unfold bodyOf
  rw [seal_list, before_mark _ _ (no_of_has h)]
  rfl
theorem sealed_seal {x : ByteArray} (h : CanSeal x) : IsSealed (sealOf x) := by
  refine ⟨?_, h.2.2⟩
  rw [body_seal h.2.1]

/-- One changed byte of a sealed string is detected. -/
theorem detect {x : ByteArray} (h : has x.data.toList 35 = false) (k : Nat) (c : UInt8) (hk : k < (sealOf x).size) (hc : (sealOf x).data.toList[k]? ≠ some c) : ¬ IsSealed (strOf ((sealOf x).data.toList.set k c)) := by
  rintro ⟨hs, -⟩
  have h1 := congrArg (fun s : ByteArray => s.data.toList) hs
  simp only [seal_list, data_strOf] at h1
  rw [seal_list] at hc
  have hk' : k < (x.data.toList ++ 35 :: decOf x.data.toList).length := by
    rw [← seal_list]; simpa using hk
  exact one_change _ _ k c (no_of_has h) (no_of_has (body_has _)) hk' hc h1.symm
end Go.Proofs.YtacpacllpjddlaaDoor
