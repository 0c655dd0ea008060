/- Contracts: the program's and the model's VerifyChecksum, at every string. -/
import Derived.Test.YtacpacllpjddlaaDoorCut
import Derived.Test.YtacpacllpjddlaaDoorSplit
import Derived.Test.YtacpacllpjddlaaDoorSeal
namespace Go.Proofs.YtacpacllpjddlaaDoor
open Go.RowKit

def bodyOf (s : ByteArray) : ByteArray := strOf (before 35 s.data.toList)
def IsSealed (s : ByteArray) : Prop := sealOf (bodyOf s) = s ∧ s.size ≤ 4000
theorem body_size (s : ByteArray) : (bodyOf s).size ≤ s.size := by
  have := before_len 35 s.data.toList
  unfold bodyOf; rw [size_strOf]; simpa using this
theorem body_has (s : ByteArray) : has (bodyOf s).data.toList 35 = false := before_has 35 _
theorem canSeal_of {s : ByteArray} (h : IsSealed s) : CanSeal (bodyOf s) :=
  ⟨by have := body_size s; have := h.2; omega, body_has s, by rw [h.1]; exact h.2⟩

theorem cut35 (s : ByteArray) (w : World) (hs : s.size ≤ maxLen) :
    Calls Tryd.prog 34 #[.string s, .string { data := #[35] }] w fun e w' => ∃ r b, e = .returned (.tuple #[.string (bodyOf s), .string r, .bool b]) ∧ ∃ m, w' = w.drewN m := cut_any s 35 w hs
theorem split_first (s : ByteArray) (w : World) (hs : s.size ≤ 1048576) :
    Calls Tryd.prog 35 #[.string s, .int .u8 35] w fun e w' => ∃ (g N cap : Nat), e = .returned (.slice (some ⟨g, 0, none⟩) N cap) ∧ 0 < N ∧ w'.cell? ⟨g, 0, none⟩ = some (.string (bodyOf s)) ∧ Below w.heap.size w w' := by
  refine (show Calls Tryd.prog 35 #[.string s, .int .u8 35] w _ from l1Split_any s 35 w hs).mono ?_
  rintro e w' ⟨v, rfl, g, cap, rfl, hown, hb⟩
  have hl := (splitL_len 35 s.data.toList).1
  have hh := before_head 35 s.data.toList []
  refine ⟨g, _, cap, rfl, hl, ?_, hb⟩
  rw [hown.cellAt 0 (by omega)]
  unfold splitL at hl ⊢
  cases hx : splitAcc 35 [] s.data.toList with
  | nil => rw [hx] at hl; simp at hl
  | cons a r =>
    rw [hx] at hh
    simp at hh
    rw [hh]; rfl

theorem verify_impl (s : ByteArray) (w : World) (hs : s.size ≤ maxLen) (h : IsSealed s) (hT : Lib.TabIs Tryd.prog w "internal/strconv.uint64pow10" .u64 Lib.pow10Tab) :
    Calls Tryd.prog 18 #[.string s] w fun e w' => e = .returned (.tuple #[.string (bodyOf s), .bool true]) ∧ Below w.heap.size w w' := by
  have c1 := cut35 s w hs
  have c2 := fun m => append_impl (bodyOf s) (w.drewN m) (canSeal_of h) hT
  have e1 := str_eq h.1
  clear h hT hs
  go_enter Tryd.func18, Tryd.ntmps18
  go_wp2_with (first | (go_at_call 34; refine c1.mono ?_; rintro e w' ⟨r, b, rfl, m, rfl⟩) | (go_at_call 16; refine (c2 _).mono ?_; rintro e w' ⟨rfl, hb⟩))
  go_ret2
  exact ⟨rfl, (below_drewN' (Below.refl _ _) _).trans hb⟩

theorem verify_impl_no (s : ByteArray) (w : World) (hs : s.size ≤ maxLen) (h : ¬ IsSealed s) (hT : Lib.TabIs Tryd.prog w "internal/strconv.uint64pow10" .u64 Lib.pow10Tab) :
    Calls Tryd.prog 18 #[.string s] w fun e w' => e = .returned (.tuple #[.string ByteArray.empty, .bool false]) ∧ Below w.heap.size w w' := by
  have c1 := cut35 s w hs
  by_cases hcs : CanSeal (bodyOf s)
  · have c2 := fun m => append_impl (bodyOf s) (w.drewN m) hcs hT
    have hne : sealOf (bodyOf s) ≠ s := fun e => h ⟨e, by have h2 := hcs.2.2; rw [e] at h2; exact h2⟩
    have e1 := str_ne hne
    clear h hT hs hcs hne
    go_enter Tryd.func18, Tryd.ntmps18
    go_wp2_with (first | (go_at_call 34; refine c1.mono ?_; rintro e w' ⟨r, b, rfl, m, rfl⟩) | (go_at_call 16; refine (c2 _).mono ?_; rintro e w' ⟨rfl, hb⟩))
    go_ret2
    exact ⟨rfl, (below_drewN' (Below.refl _ _) _).trans hb⟩
  · have c2 := fun m => append_impl_no (bodyOf s) (w.drewN m) (by have := body_size s; unfold maxLen at *; omega) hcs hT
    clear h hT hs hcs
    go_enter Tryd.func18, Tryd.ntmps18
    go_wp2_with (first | (go_at_call 34; refine c1.mono ?_; rintro e w' ⟨r, b, rfl, m, rfl⟩) | (go_at_call 16; refine (c2 _).mono ?_; rintro e w' ⟨rfl, hb⟩))
    go_ret2
    exact ⟨rfl, (below_drewN' (Below.refl _ _) _).trans hb⟩

theorem verify_spec (s : ByteArray) (w : World) (h : IsSealed s) :
    Calls Tryd.prog 20 #[.string s] w fun e w' => e = .returned (.tuple #[.string (bodyOf s), .bool true]) ∧ Below w.heap.size w w' := by
  have h4 := h.2
  have hbs := body_size s
  have e0 : decide ((4000 : Int) < (s.size : Int)) = false := by simp; omega
  have c1 := split_first s w (by omega)
  have c2 := fun wx => l1Seal_any (bodyOf s) wx (by omega)
  have e1 := str_eq h.1
  clear h hbs h4
  go_enter Tryd.func20, Tryd.ntmps20
  go_wp2_with (first | (go_at_call 35; refine c1.mono ?_; rintro e w' ⟨g, N, cap, rfl, hN, hc, hb⟩) | (go_at_call 33; refine (c2 _).mono ?_; rintro e w' ⟨rfl, m, rfl⟩))
  go_ret2
  exact ⟨rfl, below_drewN' hb _⟩

theorem verify_spec_no (s : ByteArray) (w : World) (hs : s.size ≤ maxLen) (h : ¬ IsSealed s) :
    Calls Tryd.prog 20 #[.string s] w fun e w' => e = .returned (.tuple #[.string ByteArray.empty, .bool false]) ∧ Below w.heap.size w w' := by
  unfold maxLen at hs
  by_cases h0 : (4000 : Int) < (s.size : Int)
  · clear h
    go_enter Tryd.func20, Tryd.ntmps20
    go_wp2_with fail
    go_ret2
    exact ⟨rfl, Below.refl _ _⟩
  · have hbs := body_size s
    have e0 : decide ((4000 : Int) < (s.size : Int)) = false := by simp; omega
    have c1 := split_first s w (by omega)
    have c2 := fun wx => l1Seal_any (bodyOf s) wx (by omega)
    have hne : sealOf (bodyOf s) ≠ s := fun e => h ⟨e, by omega⟩
    have e1 := str_ne hne
    clear h hbs h0 hne
    go_enter Tryd.func20, Tryd.ntmps20
    go_wp2_with (first | (go_at_call 35; refine c1.mono ?_; rintro e w' ⟨g, N, cap, rfl, hN, hc, hb⟩) | (go_at_call 33; refine (c2 _).mono ?_; rintro e w' ⟨rfl, m, rfl⟩))
    go_ret2
    exact ⟨rfl, below_drewN' hb _⟩
end Go.Proofs.YtacpacllpjddlaaDoor
