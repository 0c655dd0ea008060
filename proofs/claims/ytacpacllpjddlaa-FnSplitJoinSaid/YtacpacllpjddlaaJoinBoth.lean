/- Contracts: JoinStrings of the program and of the model answer alike, at a slice of the call's own. -/
import Derived.Test.YtacpacllpjddlaaJoinGo
import Derived.Test.YtacpacllpjddlaaBack
namespace Go.Proofs.Ytacpacllpjddlaa
open Go.RowKit

theorem own_on {w w' : World} {B : Nat} {v : Value} {n : Nat} {xs : List Value} (h : w.ownsRow B 9 1 v n xs) (hb : Below w.heap.size w w') : w'.ownsRow B 9 1 v n xs :=
  h.kept (grown_of_below hb none) (by cases hv : v.ownBlock <;> simp)

theorem join_joint (X : List ByteArray) (t : ByteArray) (v : Value) (B : Nat) (W : World) (own : W.ownsRow B 9 1 v X.length (X.map Value.string)) (hbl : X.length + blen X ≤ 1048576) : ∃ (s : ByteArray) (b : Bool),
    (∀ W', Below W.heap.size W W' → Calls Try.prog 12 #[v, .string t] W' fun e w' => e = .returned (.tuple #[.string s, .bool b]) ∧ Below W'.heap.size W' w') ∧
    (∀ W', Below W.heap.size W W' → Calls Try.prog 13 #[v, .string t] W' fun e w' => e = .returned (.tuple #[.string s, .bool b]) ∧ Below W'.heap.size W' w') := by
  have own0 := own
  rcases own.2 with ⟨rfl, h0⟩ | ⟨g, cap, cur, rfl, hb, hg, hnc, hcm, _⟩
  · rw [h0] at *
    exact ⟨ByteArray.empty, false, fun W' _ => (join_no_impl 0 none 0 t W' (.inl rfl)).mono fun e w' ⟨he, hw⟩ => ⟨he, by subst hw; exact Below.refl _ _⟩, fun W' _ => (join_no_spec 0 none 0 t W' (.inl rfl)).mono fun e w' ⟨he, hw⟩ => ⟨he, by subst hw; exact Below.refl _ _⟩⟩
  · by_cases hno : X.length = 0 ∨ t.size ≠ 1
    · exact ⟨ByteArray.empty, false, fun W' _ => (join_no_impl X.length _ cap t W' hno).mono fun e w' ⟨he, hw⟩ => ⟨he, by subst hw; exact Below.refl _ _⟩, fun W' _ => (join_no_spec X.length _ cap t W' hno).mono fun e w' ⟨he, hw⟩ => ⟨he, by subst hw; exact Below.refl _ _⟩⟩
    · obtain ⟨c, rfl⟩ := one_byte (s := t) (by omega)
      have CI := fun W' (h : Below W.heap.size W W') => join_impl X X.length g 0 cap c W' rfl (by omega) (own_cells (own_on own0 h)).1 (own_cells (own_on own0 h)).2 hnc hbl
      have CS := fun W' (h : Below W.heap.size W W') => join_spec X X.length g 0 cap c W' rfl (by omega) (own_cells (own_on own0 h)).1 (own_cells (own_on own0 h)).2 hbl
      by_cases hgood : JGood X c
      · exact ⟨strOf (jn X c), true, fun W' h => (CI W' h).mono fun e w' ⟨he, hw⟩ => ⟨jp_yes he hgood, hw⟩, fun W' h => (CS W' h).mono fun e w' ⟨he, hw⟩ => ⟨jp_yes he hgood, hw⟩⟩
      · exact ⟨ByteArray.empty, false, fun W' h => (CI W' h).mono fun e w' ⟨he, hw⟩ => ⟨jp_no he hgood, hw⟩, fun W' h => (CS W' h).mono fun e w' ⟨he, hw⟩ => ⟨jp_no he hgood, hw⟩⟩

theorem blen_short (X : List ByteArray) (h : ∀ x ∈ X, x.size ≤ 4010) : blen X ≤ 4010 * X.length := by
  induction X with
  | nil => simp [blen_nil]
  | cons x r ih =>
    have h1 := ih (fun y hy => h y (by simp [hy]))
    have h2 := h x (by simp)
    have h3 : blen (x :: r) = x.size + blen r := by unfold blen lists Lib.lens; simp
    rw [h3, List.length_cons]
    omega

/-- Joining the pieces gives the text back. -/
theorem join_back (s : ByteArray) (c : UInt8) (hs : s.size ≤ 10) (g cap : Nat) (B : Nat) (W : World) (own : W.ownsRow B 9 1 (.slice (some ⟨g, 0, none⟩) (splitL c s.data.toList).length cap) (splitL c s.data.toList).length (((splitL c s.data.toList).map strOf).map Value.string)) :
    ∀ W', Below W.heap.size W W' → Calls Try.prog 12 #[.slice (some ⟨g, 0, none⟩) (splitL c s.data.toList).length cap, .string ⟨#[c]⟩] W' fun e w' => e = .returned (.tuple #[.string s, .bool true]) ∧ Below W'.heap.size W' w' := by
  intro W' h
  have hlen := splitL_len c s.data.toList
  have hgood := good_split s c (by omega)
  have hjl := jn_length hgood.1 c
  have hsz := congrArg ByteArray.size (jn_split s c)
  rw [size_strOf] at hsz
  have hl2 : s.data.toList.length = s.size := by simp
  have hcap : (splitL c s.data.toList).length ≤ cap := by
    rcases own.2 with ⟨h', _⟩ | ⟨g', cap', cur, h', _, _, hnc, _⟩
    · simp at h'
    · simp only [Value.slice.injEq] at h'
      omega
  refine (join_impl ((splitL c s.data.toList).map strOf) (splitL c s.data.toList).length g 0 cap c W' (by simp) (by omega) (own_cells (own_on own h)).1 (own_cells (own_on own h)).2 hcap (by rw [List.length_map] at hjl; omega)).mono ?_
  intro e w' ⟨he, hw⟩
  have := jp_yes he hgood
  rw [jn_split] at this
  exact ⟨this, hw⟩
end Go.Proofs.Ytacpacllpjddlaa
