/- What a law of coded draws is told of its argument, its bound, and the laws' vInts. -/
import Derived.Test.YtflfdngcgebmmaaDraw
import Derived.Test.YtflfdngcgebmmaaIntRows
namespace Go.Proofs.Ytflfdngcgebmmaa
open Go.RowKit

theorem rdb_of {w : World} {b o n : Nat} {spot : Option Nat} {f : Nat → Int} (hc : ∀ k, k < n → w.cell? ((⟨b, o, spot⟩ : Addr).add k) = some (.int .u8 (f k))) (hf : ∀ k, k < n → IntKind.u8.min ≤ f k ∧ f k ≤ IntKind.u8.max) : RdB w w.heap.size (some ⟨b, o, spot⟩) n := by
  intro hn
  have h0 := hc 0 hn
  have hspot : spot = none := by simpa [Addr.add] using World.cell?_spot h0
  subst hspot
  have h1 : ∀ k, k < n → w.cell? ⟨b, o + k, none⟩ = some (.int .u8 (f k)) := fun k hk => by
    have h1 := hc k hk
    have e : (⟨b, o, none⟩ : Addr).add k = ⟨b, o + k, none⟩ := by unfold Addr.add; split <;> simp_all
    rw [e] at h1
    exact h1
  exact ⟨b, o, rfl, cellI_lt (h1 0 hn), fun k hk => ⟨f k, h1 k hk, (hf k hk).1, (hf k hk).2⟩⟩

theorem vBig_any (a : Option Addr) (n cap : Nat) (w : World) :
    Calls Try.prog 12 #[.slice a n cap] w fun e w' => e = .returned (.bool (decide ((65536 : Int) < (n : Int)))) ∧ w = w' := by
  go_enter Try.func12, Try.ntmps12
  go_wp2_with fail
  go_ret
  exact ⟨rfl, rfl⟩

set_option maxHeartbeats 1000000 in
theorem vInts_true (X : List Int) (n : Nat) (a1 a2 : Option Addr) (c1 c2 : Nat) (w : World) (h1 : RdI w a1 n X) (h2 : RdI w a2 n X) (hn : n ≤ 1048577) :
    Calls Try.prog 17 #[.slice a1 n c1, .slice a2 n c2] w fun e w' => e = .returned (.bool true) ∧ ∃ m, w' = w.drewN m := by
  rcases Nat.eq_zero_or_pos n with h0 | h0
  · subst h0
    clear h1 h2
    go_enter Try.func17, Try.ntmps17
    go_wp2
    refine wp_loop_rounds 1 ?_
    rw [rounds_succ]
    go_wp2
    go_ret
    exact ⟨rfl, 0, rfl⟩
  · obtain ⟨b1, o1, rfl, _, hc1⟩ := h1.2 h0
    obtain ⟨b2, o2, rfl, _, hc2⟩ := h2.2 h0
    have HL := Lib.hid h1.1
    clear h1 h2
    have H1 := Lib.hid hc1
    have H2 := Lib.hid hc2
    clear hc1 hc2
    go_enter Try.func17, Try.ntmps17
    go_wp2
    go_loopw [5] (fun i wr => ∃ k q : Nat, k ≤ n ∧ i = .int .i64 k ∧ wr = w.drewN q) (fun i _ => n - (intOf i).toNat)
    case atStart => exact ⟨0, 0, Nat.zero_le _, rfl, rfl⟩
    case round =>
      obtain ⟨k, q, hk, rfl, rfl⟩ := hrel
      by_cases hlt : k < n
      · obtain ⟨x, hx, _⟩ := atI_of_lt HL.out hlt
        have g1 := rdI_at H1.out hlt hx
        have g2 := rdI_at H2.out hlt hx
        clear hx
        go_wp2
        go_quiet (fail)
        go_wp2
        go_roundw
        case rel => exact ⟨k + 1, _, by omega, by go_num, rfl⟩
        case measure => simp [intOf]; omega
      · go_wp2
        go_ret
        exact ⟨rfl, q, rfl⟩
end Go.Proofs.Ytflfdngcgebmmaa
