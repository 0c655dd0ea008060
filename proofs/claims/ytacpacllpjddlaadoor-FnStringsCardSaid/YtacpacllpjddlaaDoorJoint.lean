/- Contracts: the program's and the model's functions of one value answer alike, as the law of strings asks. -/
import Derived.Test.YtacpacllpjddlaaDoorDetect
import Derived.Test.YtacpacllpjddlaaDoorDraw
import Derived.Test.YtacpacllpjddlaaDoorRead
namespace Go.Proofs.YtacpacllpjddlaaDoor
open Go.RowKit

theorem fmt_joint (n : Int) : ∃ (s : ByteArray) (b : Bool), s.size ≤ maxLen ∧ (b = true → -999999 ≤ n ∧ n ≤ 999999 ∧ s = strOf (Lib.itoa n)) ∧
    (∀ w, Lib.TabIs Tryd.prog w "internal/strconv.uint64pow10" .u64 Lib.pow10Tab → Calls Tryd.prog 10 #[.int .i64 n] w fun e w' => e = .returned (.tuple #[.string s, .bool b]) ∧ Below w.heap.size w w') ∧
    (∀ w, Calls Tryd.prog 11 #[.int .i64 n] w fun e w' => e = .returned (.tuple #[.string s, .bool b]) ∧ Below w.heap.size w w') := by
  by_cases h : -999999 ≤ n ∧ n ≤ 999999
  · refine ⟨strOf (Lib.itoa n), true, ?_, fun _ => ⟨h.1, h.2, rfl⟩, fun w hT => formatInt_impl n w h.1 h.2 hT, fun w => (formatInt_spec n w h.1 h.2).mono fun e w' ⟨he, m, hw⟩ => ⟨he, by subst hw; exact below_drewN' (Below.refl _ _) _⟩⟩
    have := Lib.itoa_length_le n (by omega) (by omega)
    rw [size_strOf]; unfold maxLen; omega
  · have h' : n < -999999 ∨ 999999 < n := by omega
    exact ⟨ByteArray.empty, false, by unfold maxLen; show 0 ≤ _; omega, by simp, fun w _ => (formatInt_impl_out n w h').mono fun e w' ⟨he, hw⟩ => ⟨he, by subst hw; exact Below.refl _ _⟩, fun w => (formatInt_spec_out n w h').mono fun e w' ⟨he, hw⟩ => ⟨he, by subst hw; exact Below.refl _ _⟩⟩

theorem parse_joint (s : ByteArray) (hs : s.size ≤ maxLen) : ∃ (n : Int) (b : Bool), (∀ m : Int, -999999 ≤ m → m ≤ 999999 → s = strOf (Lib.itoa m) → b = true ∧ n = m) ∧
    (∀ w, Lib.TabIs Tryd.prog w "internal/strconv.uint64pow10" .u64 Lib.pow10Tab → Calls Tryd.prog 13 #[.string s] w fun e w' => e = .returned (.tuple #[.int .i64 n, .bool b]) ∧ Below w.heap.size w w') ∧
    (∀ w, Calls Tryd.prog 14 #[.string s] w fun e w' => e = .returned (.tuple #[.int .i64 n, .bool b]) ∧ Below w.heap.size w w') := by
  rcases pi_cases s with ⟨n, h0, h2, h⟩ | hno
  · refine ⟨n, true, fun m _ _ e => ⟨rfl, itoa_inj (strOf_inj (h.symm.trans e))⟩, fun w hT => (parseInt_impl s w hs hT).mono fun e w' ⟨hp, hb⟩ => ⟨pi_yes hp h0 h2 h, hb⟩, fun w => (parseInt_spec s w hs).mono fun e w' ⟨hp, q, hw⟩ => ⟨pi_yes hp h0 h2 h, by subst hw; exact below_drewN' (Below.refl _ _) _⟩⟩
  · refine ⟨0, false, fun m a b e => absurd e (hno m a b), fun w hT => (parseInt_impl s w hs hT).mono fun e w' ⟨hp, hb⟩ => ⟨pi_no hp hno, hb⟩, fun w => (parseInt_spec s w hs).mono fun e w' ⟨hp, q, hw⟩ => ⟨pi_no hp hno, by subst hw; exact below_drewN' (Below.refl _ _) _⟩⟩

theorem append_joint (x : ByteArray) (hx : x.size ≤ 4000) : ∃ (s : ByteArray) (b : Bool), s.size ≤ 5000 ∧ (b = true → s = sealOf x ∧ CanSeal x) ∧ (b = false → s = ByteArray.empty) ∧
    (∀ w, Lib.TabIs Tryd.prog w "internal/strconv.uint64pow10" .u64 Lib.pow10Tab → Calls Tryd.prog 16 #[.string x] w fun e w' => e = .returned (.tuple #[.string s, .bool b]) ∧ Below w.heap.size w w') ∧
    (∀ w, Calls Tryd.prog 17 #[.string x] w fun e w' => e = .returned (.tuple #[.string s, .bool b]) ∧ Below w.heap.size w w') := by
  by_cases h : CanSeal x
  · exact ⟨sealOf x, true, by have := h.2.2; omega, fun _ => ⟨rfl, h⟩, by simp, fun w hT => append_impl x w h hT, fun w => (append_spec x w h).mono fun e w' ⟨he, m, hw⟩ => ⟨he, by subst hw; exact below_drewN' (Below.refl _ _) _⟩⟩
  · have hm : x.size ≤ maxLen := by unfold maxLen; omega
    exact ⟨ByteArray.empty, false, by show 0 ≤ _; omega, by simp, fun _ => rfl, fun w hT => append_impl_no x w hm h hT, fun w => (append_spec_no x w hm h).mono fun e w' ⟨he, m, hw⟩ => ⟨he, by subst hw; exact below_drewN' (Below.refl _ _) _⟩⟩

theorem vAt_any (a : Option Addr) (n cap : Nat) (i : Int) (w : World) (h : RdB w w.heap.size a n) (hn : n ≤ 65536) (h0 : 0 ≤ i) (h1 : i ≤ 1000) :
    ∃ r : Int, 0 ≤ r ∧ r ≤ 255 ∧ Calls Tryd.prog 19 #[.slice a n cap, .int .i64 i] w fun e w' => e = .returned (.int .i64 r) ∧ w' = w := by
  obtain ⟨i, rfl⟩ : ∃ k : Nat, i = k := ⟨i.toNat, by omega⟩
  by_cases hlt : i < n
  · obtain ⟨b, o, rfl, hb, hc⟩ := h (by omega)
    obtain ⟨x, hx, hx0, hx1⟩ := hc i hlt
    clear h hc
    refine ⟨x, hx0, hx1, ?_⟩
    go_enter Tryd.func19, Tryd.ntmps19
    go_wp2_with fail
    go_ret
    exact ⟨rfl, rfl⟩
  · have hge : decide ((i : Int) < (n : Int)) = false := by simp; omega
    clear h
    refine ⟨((i : Int) * 7 + n) % 256, by omega, by omega, ?_⟩
    go_enter Tryd.func19, Tryd.ntmps19
    go_wp2_with fail
    go_ret
    exact ⟨rfl, rfl⟩

theorem cell_lt {w : World} {b o : Nat} {v : Value} (h : w.cell? ⟨b, o, none⟩ = some v) : b < w.heap.size := by
  rcases Nat.lt_or_ge b w.heap.size with h1 | h1
  · exact h1
  · unfold World.cell? at h
    rw [Array.getElem?_eq_none h1] at h
    simp at h
theorem rdb_of {w : World} {b o n : Nat} {spot : Option Nat} {f : Nat → Int} (hc : ∀ k, k < n → w.cell? ((⟨b, o, spot⟩ : Addr).add k) = some (.int .u8 (f k))) (hf : ∀ k, k < n → IntKind.u8.min ≤ f k ∧ f k ≤ IntKind.u8.max) : RdB w w.heap.size (some ⟨b, o, spot⟩) n := by
  intro hn
  have h0 := hc 0 hn
  have hspot : spot = none := by simpa [Addr.add] using World.cell?_spot h0
  subst hspot
  have h1 : ∀ k, k < n → w.cell? ⟨b, o + k, none⟩ = some (.int .u8 (f k)) := fun k hk => by
    have h1 := hc k hk
    have e : (⟨b, o, none⟩ : Addr).add k = ⟨b, o + k, none⟩ := by unfold Addr.add; split <;> simp_all
    rw [e] at h1
    exact h1
  exact ⟨b, o, rfl, cell_lt (h1 0 hn), fun k hk => ⟨f k, h1 k hk, (hf k hk).1, (hf k hk).2⟩⟩

theorem vBig_any (a : Option Addr) (n cap : Nat) (w : World) :
    Calls Tryd.prog 8 #[.slice a n cap] w fun e w' => e = .returned (.bool (decide ((65536 : Int) < (n : Int)))) ∧ w = w' := by
  go_enter Tryd.func8, Tryd.ntmps8
  go_wp2_with fail
  go_ret
  exact ⟨rfl, rfl⟩
end Go.Proofs.YtacpacllpjddlaaDoor
