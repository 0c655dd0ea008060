/- What a law of coded draws is told of its argument, its bound, and the order of strings. -/
import Derived.Test.YtacpacllpjddlaaDraw
import Derived.Test.YtacpacllpjddlaaStrArg
namespace Go.Proofs.Ytacpacllpjddlaa
open Go.RowKit

theorem rdb_of {w : World} {b o n : Nat} {spot : Option Nat} {f : Nat → Int} (hc : ∀ k, k < n → w.cell? ((⟨b, o, spot⟩ : Addr).add k) = some (.int .u8 (f k))) (hf : ∀ k, k < n → IntKind.u8.min ≤ f k ∧ f k ≤ IntKind.u8.max) : RdB w w.heap.size (some ⟨b, o, spot⟩) n := by
  intro hn
  have h0 := hc 0 hn
  have hspot : spot = none := by simpa [Addr.add] using World.cell?_spot h0
  subst hspot
  have h1 : ∀ k, k < n → w.cell? ⟨b, o + k, none⟩ = some (.int .u8 (f k)) := fun k hk => by
    have h1 := hc k hk
    have e : (⟨b, o, none⟩ : Addr).add k = ⟨b, o + k, none⟩ := by unfold Addr.add; split <;> simp_all
    rw [e] at h1
    exact h1
  exact ⟨b, o, rfl, cell_lt (h1 0 hn), fun k hk => ⟨f k, h1 k hk, (hf k hk).1, (hf k hk).2⟩⟩

theorem vBig_any (a : Option Addr) (n cap : Nat) (w : World) :
    Calls Try.prog 8 #[.slice a n cap] w fun e w' => e = .returned (.bool (decide ((65536 : Int) < (n : Int)))) ∧ w = w' := by
  go_enter Try.func8, Try.ntmps8
  go_wp2_with fail
  go_ret
  exact ⟨rfl, rfl⟩

theorem less_impl (a b : ByteArray) (w : World) :
    Calls Try.prog 15 #[.string a, .string b] w fun e w' => e = .returned (.bool (Op.bytesLess a.toList b.toList)) ∧ w = w' := by
  go_enter Try.func15, Try.ntmps15
  go_wp2_with fail
  go_ret
  exact ⟨rfl, rfl⟩
theorem less_spec (a b : ByteArray) (w : World) :
    Calls Try.prog 16 #[.string a, .string b] w fun e w' => e = .returned (.bool (Op.bytesLess a.toList b.toList)) ∧ w = w' := by
  go_enter Try.func16, Try.ntmps16
  go_wp2_with fail
  go_ret
  exact ⟨rfl, rfl⟩
theorem less_asymm (a : List UInt8) : ∀ b, Op.bytesLess a b = true → Op.bytesLess b a = false := by
  induction a with
  | nil => intro b h; cases b <;> simp [Op.bytesLess] at h ⊢
  | cons x r ih =>
    intro b h
    cases b with
    | nil => simp [Op.bytesLess] at h
    | cons y q =>
      simp [Op.bytesLess] at h ⊢
      rcases h with h | ⟨rfl, h⟩
      · have h1 : x.toNat < y.toNat := h
        refine ⟨?_, fun e => ?_⟩
        · show x.toNat ≤ y.toNat
          omega
        · rw [e] at h1; omega
      · exact ⟨Nat.le_refl x.toNat, fun _ => ih q h⟩
end Go.Proofs.Ytacpacllpjddlaa
