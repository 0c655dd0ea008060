/- What a law of coded draws is told of its argument, its bound, and the laws' vInts. -/
import Derived.Test.YtflfdngcgebmmaaDoorDraw
import Derived.Test.YtflfdngcgebmmaaDoorIntRows
import Derived.Test.YtflfdngcgebmmaaDoorLists
namespace Go.Proofs.YtflfdngcgebmmaaDoor
open Go.RowKit

theorem rdb_of {w : World} {b o n : Nat} {spot : Option Nat} {f : Nat → Int} (hc : ∀ k, k < n → w.cell? ((⟨b, o, spot⟩ : Addr).add k) = some (.int .u8 (f k))) (hf : ∀ k, k < n → IntKind.u8.min ≤ f k ∧ f k ≤ IntKind.u8.max) : RdB w w.heap.size (some ⟨b, o, spot⟩) n := by
  intro hn
  have h0 := hc 0 hn
  have hspot : spot = none := by simpa [Addr.add] using World.cell?_spot h0
  subst hspot
  have h1 : ∀ k, k < n → w.cell? ⟨b, o + k, none⟩ = some (.int .u8 (f k)) := fun k hk => by
    have h1 := hc k hk
    have e : (⟨b, o, none⟩ : Addr).add k = ⟨b, o + k, none⟩ := by unfold Addr.add; split <;> simp_all
    rw [e] at h1
    exact h1
  exact ⟨b, o, rfl, cellI_lt (h1 0 hn), fun k hk => ⟨f k, h1 k hk, (hf k hk).1, (hf k hk).2⟩⟩

theorem vBig_any (a : Option Addr) (n cap : Nat) (w : World) :
    Calls Tryd.prog 10 #[.slice a n cap] w fun e w' => e = .returned (.bool (decide ((65536 : Int) < (n : Int)))) ∧ w = w' := by
  go_enter Tryd.func10, Tryd.ntmps10
  go_wp2_with fail
  go_ret
  exact ⟨rfl, rfl⟩

set_option maxHeartbeats 1000000 in
theorem vHas_any (X : List Int) (x : Int) (n : Nat) (a : Option Addr) (c : Nat) (w : World) (h : RdI w a n X) (hn : n ≤ 1048577) :
    Calls Tryd.prog 17 #[.slice a n c, .int .i64 x] w fun e w' => e = .returned (.bool (X.contains x)) ∧ w = w' := by
  obtain ⟨r, hr⟩ : ∃ r, X.contains x = r := ⟨_, rfl⟩
  rw [hr]
  have HR := Lib.hid hr
  have HL := Lib.hid h.1
  rcases Nat.eq_zero_or_pos n with hz | hz
  · have HX := Lib.hid (show r = false by
      rw [← hr]
      have : X = [] := List.eq_nil_of_length_eq_zero (by have := h.1; omega)
      rw [this]; rfl)
    subst hz
    clear h hr
    go_enter Tryd.func17, Tryd.ntmps17
    go_wp2_with fail
    refine wp_loop_rounds 1 ?_
    rw [rounds_succ]
    go_wp2_with fail
    go_ret
    exact ⟨ret_bool HX.out.symm, rfl⟩
  · obtain ⟨b, o, rfl, _, hc⟩ := h.2 hz
    have HC := Lib.hid hc
    clear h hr hc
    go_enter Tryd.func17, Tryd.ntmps17
    go_wp2_with fail
    go_loopw [5] (fun i wr => ∃ k : Nat, k ≤ n ∧ i = .int .i64 k ∧ Hid ((X.take k).contains x = false) ∧ w = wr) (fun i _ => n - (intOf i).toNat)
    case atStart => exact ⟨0, Nat.zero_le _, rfl, by show _ = _; simp, rfl⟩
    case round =>
      obtain ⟨k, hk, rfl, HT, rfl⟩ := hrel
      by_cases hlt : k < n
      · obtain ⟨y, hy, _⟩ := atI_of_lt HL.out hlt
        have hcell := rdI_at HC.out hlt hy
        have HY := Lib.hid hy
        clear hy
        by_cases hxy : y = x
        · have e1 : (y == x) = true := by rw [beq_iff_eq]; exact hxy
          have HF := Lib.hid (HR.out.symm.trans (has_hit (X := X) (x := x) (k := k) (by rw [HY.out, hxy])))
          clear hxy
          go_wp2_with fail
          go_ret
          exact ⟨ret_bool HF.out.symm, rfl⟩
        · have e1 : (y == x) = false := by rw [beq_eq_false_iff_ne]; exact hxy
          have HT2 := Lib.hid (has_step HY.out HT.out hxy)
          clear hxy
          go_wp2_with fail
          go_roundw
          case rel => exact ⟨k + 1, by omega, by go_num, HT2, trivial⟩
          case measure => simp [intOf]; omega
      · have HF := Lib.hid (show r = false by
          have h1 := HT.out
          rw [List.take_of_length_le (by have := HL.out; omega), HR.out] at h1
          exact h1)
        go_wp2_with fail
        go_ret
        exact ⟨ret_bool HF.out.symm, rfl⟩
end Go.Proofs.YtflfdngcgebmmaaDoor
