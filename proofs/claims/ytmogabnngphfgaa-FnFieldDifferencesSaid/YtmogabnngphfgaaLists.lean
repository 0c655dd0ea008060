/- Contracts: is it a list of tinctures; is a number in a list. -/
import Derived.Test.YtmogabnngphfgaaTMath
import Derived.Test.YtmogabnngphfgaaIntRows
namespace Go.Proofs.Ytmogabnngphfgaa
open Go.RowKit

theorem OwnI.drewN {w : World} {B n cap : Nat} {a : Option Addr} {X : List Int} (h : OwnI w B a n cap X) (m : Nat) : OwnI (w.drewN m) B a n cap X := h
theorem ret_bool {a b : Bool} (h : a = b) : Ending.returned (.bool a) = .returned (.bool b) := by rw [h]

theorem has_hit {X : List Int} {k : Nat} {x : Int} (hx : X[k]? = some x) : X.contains x = true := by
  rw [List.contains_iff_mem]; exact List.mem_of_getElem? hx
theorem has_step {X : List Int} {k : Nat} {y x : Int} (hx : X[k]? = some y) (h : (X.take k).contains x = false) (hne : y ≠ x) : (X.take (k + 1)).contains x = false := by
  rw [take_succ' hx]
  have h1 : x ∉ X.take k := by simpa using h
  simp only [List.contains_eq_mem, List.mem_append, List.mem_singleton, decide_eq_false_iff_not]
  rintro (h2 | h2)
  · exact h1 h2
  · exact hne h2.symm



set_option maxHeartbeats 1000000 in
theorem l1Has_any (X : List Int) (x : Int) (n : Nat) (a : Option Addr) (c : Nat) (w : World) (h : RdI w a n X) (hn : n ≤ 1048577) :
    Calls Try.prog 43 #[.slice a n c, .int .i64 x] w fun e w' => e = .returned (.bool (X.contains x)) ∧ w = w' := by
  obtain ⟨r, hr⟩ : ∃ r, X.contains x = r := ⟨_, rfl⟩
  rw [hr]
  have HR := Lib.hid hr
  have HL := Lib.hid h.1
  rcases Nat.eq_zero_or_pos n with hz | hz
  · have HX := Lib.hid (show r = false by
      rw [← hr]
      have : X = [] := List.eq_nil_of_length_eq_zero (by have := h.1; omega)
      rw [this]; rfl)
    subst hz
    clear h hr
    go_enter Try.func43, Try.ntmps43
    go_wp2_with fail
    refine wp_loop_rounds 1 ?_
    rw [rounds_succ]
    go_wp2_with fail
    go_ret
    exact ⟨ret_bool HX.out.symm, rfl⟩
  · obtain ⟨b, o, rfl, _, hc⟩ := h.2 hz
    have HC := Lib.hid hc
    clear h hr hc
    go_enter Try.func43, Try.ntmps43
    go_wp2_with fail
    go_loopw [5] (fun i wr => ∃ k : Nat, k ≤ n ∧ i = .int .i64 k ∧ Hid ((X.take k).contains x = false) ∧ w = wr) (fun i _ => n - (intOf i).toNat)
    case atStart => exact ⟨0, Nat.zero_le _, rfl, by show _ = _; simp, rfl⟩
    case round =>
      obtain ⟨k, hk, rfl, HT, rfl⟩ := hrel
      by_cases hlt : k < n
      · obtain ⟨y, hy, _⟩ := atI_of_lt HL.out hlt
        have hcell := rdI_at HC.out hlt hy
        have HY := Lib.hid hy
        clear hy
        by_cases hxy : y = x
        · have e1 : (y == x) = true := by rw [beq_iff_eq]; exact hxy
          have HF := Lib.hid (HR.out.symm.trans (has_hit (X := X) (x := x) (k := k) (by rw [HY.out, hxy])))
          clear hxy
          go_wp2_with fail
          go_ret
          exact ⟨ret_bool HF.out.symm, rfl⟩
        · have e1 : (y == x) = false := by rw [beq_eq_false_iff_ne]; exact hxy
          have HT2 := Lib.hid (has_step HY.out HT.out hxy)
          clear hxy
          go_wp2_with fail
          go_roundw
          case rel => exact ⟨k + 1, by omega, by go_num, HT2, trivial⟩
          case measure => simp [intOf]; omega
      · have HF := Lib.hid (show r = false by
          have h1 := HT.out
          rw [List.take_of_length_le (by have := HL.out; omega), HR.out] at h1
          exact h1)
        go_wp2_with fail
        go_ret
        exact ⟨ret_bool HF.out.symm, rfl⟩
end Go.Proofs.Ytmogabnngphfgaa
