/- Contracts: the laws' toFinding; FindingText of both sides answers alike. -/
import Derived.Test.YtgoelkgdjnhklaaDoorE8Text
namespace Go.Proofs.YtgoelkgdjnhklaaDoor
open Go.RowKit

theorem clA_out {u l : Int} (h : clA u l = true) : (1 ≤ u ∧ u ≤ 9) ∧ (1 ≤ l ∧ l ≤ 9) := by
  unfold clA clashA at h
  split at h
  · next h1 => exact ⟨⟨h1.1, h1.2.1⟩, h1.2.2.1, h1.2.2.2⟩
  · cases h
theorem fOk_out {p u l : Int} (h : fOkB p u l = true) : ∃ a b c : Nat, a < 3 ∧ b < 9 ∧ c < 9 ∧ p = (a : Int) + 1 ∧ u = (b : Int) + 1 ∧ l = (c : Int) + 1 := by
  unfold fOkB at h
  rw [Bool.and_eq_true, decide_eq_true_eq] at h
  obtain ⟨h1, h2, h3⟩ := clA_out h.2 |> fun q => And.intro h.1 q
  exact ⟨(p - 1).toNat, (u - 1).toNat, (l - 1).toNat, by omega, by omega, by omega, by omega, by omega, by omega⟩
/-- The sentence of a finding, or nothing. -/
def fT (p u l : Int) : ByteArray := if fOkB p u l = true then fText (p - 1).toNat (u - 1).toNat (l - 1).toNat else ⟨#[]⟩
theorem fT_yes (a b c : Nat) (h : fOkB ((a : Int) + 1) ((b : Int) + 1) ((c : Int) + 1) = true) : fT ((a : Int) + 1) ((b : Int) + 1) ((c : Int) + 1) = fText a b c := by
  unfold fT
  rw [if_pos h, show ((a : Int) + 1 - 1).toNat = a by omega, show ((b : Int) + 1 - 1).toNat = b by omega, show ((c : Int) + 1 - 1).toNat = c by omega]
theorem findText_any (p u l : Int) (w : World) (hW : WordsLie w) (hS : StartsLie w) :
    Calls Tryd.prog 30 #[.agg #[.int .i64 p, .int .i64 u, .int .i64 l]] w fun e w' => e = .returned (.tuple #[.string (fT p u l), .bool (fOkB p u l)]) ∧ Below w.heap.size w w' := by
  rcases Bool.eq_false_or_eq_true (fOkB p u l) with h | h
  · obtain ⟨a, b, c, ha, hb, hc, rfl, rfl, rfl⟩ := fOk_out h
    rw [fT_yes a b c h, h]
    exact findText_yes a b c w ha hb hc h hW hS
  · have e : fT p u l = ⟨#[]⟩ := by unfold fT; rw [h]; rfl
    rw [e, h]
    exact findText_no p u l w h
theorem findTextS_any (p u l : Int) (w : World) :
    Calls Tryd.prog 61 #[.agg #[.int .i64 p, .int .i64 u, .int .i64 l]] w fun e w' => e = .returned (.tuple #[.string (fT p u l), .bool (fOkB p u l)]) ∧ Below w.heap.size w w' := by
  rcases Bool.eq_false_or_eq_true (fOkB p u l) with h | h
  · obtain ⟨a, b, c, ha, hb, hc, rfl, rfl, rfl⟩ := fOk_out h
    rw [fT_yes a b c h, h]
    exact findTextS_yes a b c w ha hb hc h
  · have e : fT p u l = ⟨#[]⟩ := by unfold fT; rw [h]; rfl
    rw [e, h]
    exact findTextS_no p u l w h
set_option maxHeartbeats 2000000 in
theorem toFinding_any (p u l : Int) (w : World) :
    Calls Tryd.prog 62 #[.agg #[.int .i64 p, .int .i64 u, .int .i64 l]] w fun e w' => e = .returned (.agg #[.int .i64 p, .int .i64 u, .int .i64 l]) ∧ Below w.heap.size w w' := by
  go_enter Tryd.func62, Tryd.ntmps62
  go_wp2_with fail
  exact bodyPost_ret (v := .agg #[.int .i64 p, .int .i64 u, .int .i64 l]) (by simp [results, Tryd.results62, go_sem]) rfl ⟨rfl, (((Below.refl _ w).alloc (Nat.le_refl _) _).alloc (by simp) _).alloc (by simp; omega) _⟩
end Go.Proofs.YtgoelkgdjnhklaaDoor
