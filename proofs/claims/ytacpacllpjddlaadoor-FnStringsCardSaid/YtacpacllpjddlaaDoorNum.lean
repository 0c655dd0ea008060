/- Contracts: the model's l1Num gives the decimal numeral of every number between -999999 and 999999. -/
import Derived.Test.YtacpacllpjddlaaDoorBase
import Derived.Test.YtacpacllpjddlaaDoorProg
import Derived.WalkKit
import Derived.WalkLawsBesides
import Derived.Lib.Hide
import Derived.Lib.ItoaNum
import Derived.Lib.ItoaLen
import Derived.Deep.QuietTactic
import Derived.BigQuiet
import Derived.IntWalk
import Derived.WalkSpells
namespace Go.Proofs.YtacpacllpjddlaaDoor
open Go.RowKit


/-- The string of one digit. -/
def digitStr (d : Int) : ByteArray := strOf [UInt8.ofNat (48 + d.toNat)]
theorem size_digitStr (d : Int) : (digitStr d).size = 1 := rfl
theorem size_dec (u : Nat) (h : u ≤ 999999) : (strOf (Lib.decDigits u)).size ≤ 20 := by
  rw [size_strOf, Lib.decDigits_length]; exact Lib.nDigits_le20 u (by omega)
theorem num_step (n : Int) (h : 10 ≤ n) : strOf (Lib.decDigits (n / 10).toNat) ++ digitStr (n % 10) = strOf (Lib.decDigits n.toNat) := by
  obtain ⟨m, rfl⟩ : ∃ m : Nat, n = m := ⟨n.toNat, by omega⟩
  have e1 : ((m : Int) / 10).toNat = m / 10 := by omega
  have e2 : ((m : Int) % 10).toNat = m % 10 := by omega
  have e3 : (m : Int).toNat = m := by omega
  rw [e1, e3, Lib.decDigits.eq_def m, dif_neg (by omega), digitStr, e2, strOf_append]
theorem itoa_nonneg (n : Int) (h : 0 ≤ n) : Lib.itoa n = Lib.decDigits n.toNat := by unfold Lib.itoa; rw [if_neg (by omega)]
theorem itoa_neg (n : Int) (h : n < 0) : ({ data := #[45] } : ByteArray) ++ strOf (Lib.decDigits (-n).toNat) = strOf (Lib.itoa n) := by
  unfold Lib.itoa
  rw [if_pos h, show (-n).toNat = n.natAbs from by omega]
  exact ByteArray.mk_append_mk [45] _
theorem slice_digit (d : Int) (h0 : 0 ≤ d) (h1 : d < 10) (w : World) :
    (Instr.slice 9 (.string { data := #[48, 49, 50, 51, 52, 53, 54, 55, 56, 57] }) (some (.int .i64 d)) (some (.int .i64 (d + 1))) none).run Tryd.prog w = (.ok (.string (digitStr d)) w) := by
  have h : d = 0 ∨ d = 1 ∨ d = 2 ∨ d = 3 ∨ d = 4 ∨ d = 5 ∨ d = 6 ∨ d = 7 ∨ d = 8 ∨ d = 9 := by omega
  have hsz : ({ data := #[48, 49, 50, 51, 52, 53, 54, 55, 56, 57] } : ByteArray).size = 10 := rfl
  rw [run_slice_string (P := Tryd.prog) (w := w) (t := 9) (k := .i64) (k' := .i64) (i := d) (j := d + 1) (h := Tryd.underlying9) (h0 := h0) (h1 := by omega) (h2 := by rw [hsz]; omega)]
  rcases h with rfl | rfl | rfl | rfl | rfl | rfl | rfl | rfl | rfl | rfl <;> rfl

set_option maxHeartbeats 1000000 in
theorem l1Num_nat (k : Nat) : ∀ (n : Int) (w : World), n ≤ k → 0 ≤ n → n ≤ 999999 →
    Calls Tryd.prog 25 #[.int .i64 n] w fun e w' => e = .returned (.string (strOf (Lib.decDigits n.toNat))) ∧ ∃ m, w' = w.drewN m := by
  induction k with
  | zero =>
    intro n w hk h0 _
    obtain rfl : n = 0 := by omega
    go_enter Tryd.func25, Tryd.ntmps25
    go_wp2_with fail
    go_ret
    exact ⟨by rw [Lib.decDigits]; rfl, 0, rfl⟩
  | succ k ih =>
    intro n w hk h0 hhi
    by_cases hn : n < 10
    · have hs := slice_digit n h0 hn
      go_enter Tryd.func25, Tryd.ntmps25
      go_wp2_with fail
      go_ret
      exact ⟨by rw [Lib.decDigits, dif_pos (by omega)]; rfl, 0, rfl⟩
    · have hn' : (10 : Int) ≤ n := by omega
      have hs := slice_digit (n % 10) (by omega) (by omega)
      go_enter Tryd.func25, Tryd.ntmps25
      go_wp2_with fail
      have ih2 := fun wx => ih (n / 10) wx (by omega) (by omega) (by omega)
      clear ih
      have hq : IntKind.i64.wrap (n.tdiv 10) = n / 10 := by rw [Int.tdiv_eq_ediv_of_nonneg h0]; exact IntWalk.i64_in _ (by omega)
      have hr : n.tmod 10 = n % 10 := Int.tmod_eq_emod_of_nonneg h0
      have hr1 : IntKind.i64.wrap (n % 10 + 1) = n % 10 + 1 := IntWalk.i64_in _ (by omega)
      have hz1 := size_dec (n / 10).toNat (by omega)
      have hz2 : (digitStr (n % 10)).size ≤ 1 := by rw [size_digitStr]; omega
      go_quiet ((go_at_call 25; exact Calls.quiet_of (ih2 _)))
      clear hq hr hr1 hs
      go_wp2_with fail
      go_ret
      refine ⟨?_, _, rfl⟩
      exact ret_str (num_step n hn')

/-- The model's l1Num: the decimal numeral. -/
theorem l1Num_any (n : Int) (w : World) (h0 : -999999 ≤ n) (h1 : n ≤ 999999) :
    Calls Tryd.prog 25 #[.int .i64 n] w fun e w' => e = .returned (.string (strOf (Lib.itoa n))) ∧ ∃ m, w' = w.drewN m := by
  by_cases h : n < 0
  · have c := fun wx => l1Num_nat (-n).toNat (-n) wx (by omega) (by omega) (by omega)
    have hz := size_dec (-n).toNat (by omega)
    go_enter Tryd.func25, Tryd.ntmps25
    go_wp2_with (go_at_call 25; refine (c _).mono ?_; rintro e w' ⟨rfl, m, rfl⟩)
    go_ret
    exact ⟨ret_str (itoa_neg n h), _, rfl⟩
  · rw [itoa_nonneg n (by omega)]
    exact l1Num_nat n.toNat n w (by omega) (by omega) h1
end Go.Proofs.YtacpacllpjddlaaDoor
