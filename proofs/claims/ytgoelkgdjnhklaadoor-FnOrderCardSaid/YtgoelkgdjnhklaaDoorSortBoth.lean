/- Contract: SortArms of both sides answers alike. -/
import Derived.Test.YtgoelkgdjnhklaaDoorRSort
import Derived.Test.YtgoelkgdjnhklaaDoorArmRow2
namespace Go.Proofs.YtgoelkgdjnhklaaDoor
open Go.RowKit

/-- What both answer. -/
def sortAns (X : List Arm) : List Int := if X.length ≤ 20 ∧ X.all Arm.ok = true then sortL X X.length X.length else []
def sortOk (X : List Arm) : Bool := decide (X.length ≤ 20) && X.all Arm.ok
theorem sortAns_len (X : List Arm) : (sortAns X).length ≤ 20 := by
  unfold sortAns
  split
  · next h => rw [sortL_len]; exact h.1
  · simp
theorem sort_spec (X : List Arm) (n : Nat) (a : Option Addr) (c : Nat) (w : World) (h : RdA w a n X) :
    Calls Tryd.prog 17 #[.slice a n c] w (Ans w (sortAns X) (sortOk X)) := by
  have hl := h.1
  rcases Nat.lt_or_ge 20 n with hn | hn
  · have e1 : sortAns X = [] := if_neg (fun h => by omega)
    have e2 : sortOk X = false := by unfold sortOk; rw [decide_eq_false (by omega)]; rfl
    rw [e1, e2]
    exact sortS_big n a c w hn
  · rcases Nat.eq_zero_or_pos n with h0 | h0
    · subst h0
      obtain rfl := List.eq_nil_of_length_eq_zero hl
      exact sortS_none c a w
    · have e2 : sortOk X = X.all Arm.ok := by unfold sortOk; rw [decide_eq_true (by omega)]; rfl
      have r := sortS_loop X n a c w h h0 hn _ rfl
      have e1 : sortAns X = if X.all Arm.ok = true then sortL X n n else [] := by
        unfold sortAns
        rw [hl]
        by_cases q : X.all Arm.ok = true
        · rw [if_pos ⟨hn, q⟩, if_pos q]
        · rw [if_neg (fun h => q h.2), if_neg q]
      rw [e1, e2]
      exact r
theorem sort_impl (X : List Arm) (n : Nat) (a : Option Addr) (c : Nat) (w : World) (h : RdA w a n X) (hT : STabs w) :
    Calls Tryd.prog 16 #[.slice a n c] w (Ans w (sortAns X) (sortOk X)) := by
  have hl := h.1
  rcases Nat.lt_or_ge 20 n with hn | hn
  · have e1 : sortAns X = [] := if_neg (fun h => by omega)
    have e2 : sortOk X = false := by unfold sortOk; rw [decide_eq_false (by omega)]; rfl
    rw [e1, e2]
    exact sortR_big n a c w hn
  · rcases Nat.eq_zero_or_pos n with h0 | h0
    · subst h0
      obtain rfl := List.eq_nil_of_length_eq_zero hl
      exact sortR_none c a w
    · have e2 : sortOk X = X.all Arm.ok := by unfold sortOk; rw [decide_eq_true (by omega)]; rfl
      have r := sortR_loop X n a c w h h0 hn _ rfl hT
      have e1 : sortAns X = if X.all Arm.ok = true then sortL X n n else [] := by
        unfold sortAns
        rw [hl]
        by_cases q : X.all Arm.ok = true
        · rw [if_pos ⟨hn, q⟩, if_pos q]
        · rw [if_neg (fun h => q h.2), if_neg q]
      rw [e1, e2]
      exact r
theorem rdI_grown {w w' : World} {a : Option Addr} {n : Nat} {X : List Int} {row : Option Nat} (h : RdI w a n X) (hg : w.grownBy w' row) (hne : ∀ b o, a = some ⟨b, o, none⟩ → 0 < n → some b ≠ row) : RdI w' a n X :=
  ⟨h.1, fun hn => by
    obtain ⟨b, o, e, hlt, hc⟩ := h.2 hn
    exact ⟨b, o, e, Nat.lt_of_lt_of_le hlt hg.size, fun k hk => hg.cell (hc k hk) (hne b o e hn)⟩⟩
theorem ownI_blk {w : World} {B n cap : Nat} {a : Option Addr} {X : List Int} (h : OwnI w B a n cap X) {b o : Nat} (e : a = some ⟨b, o, none⟩) : B ≤ b ∧ b < w.heap.size := by
  rcases h.shape with ⟨rfl, _⟩ | ⟨q, rfl, h1, h2⟩
  · cases e
  · cases e; exact ⟨h1, h2⟩
end Go.Proofs.YtgoelkgdjnhklaaDoor
