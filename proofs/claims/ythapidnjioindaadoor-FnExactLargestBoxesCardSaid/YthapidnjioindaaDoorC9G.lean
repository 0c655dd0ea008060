/- Contracts: the laws' rBig and rInts; the draws of chapter 9; what the law of the parts needs. -/
import Derived.Test.YthapidnjioindaaDoorDraw
import Derived.Test.YthapidnjioindaaDoorC9C
import Derived.Test.YthapidnjioindaaDoorC9N
namespace Go.Proofs.YthapidnjioindaaDoor
open Go.RowKit

theorem rdb_ofG {w : World} {b o n : Nat} {spot : Option Nat} {f : Nat → Int} (hc : ∀ k, k < n → w.cell? ((⟨b, o, spot⟩ : Addr).add k) = some (.int .u8 (f k))) (hf : ∀ k, k < n → IntKind.u8.min ≤ f k ∧ f k ≤ IntKind.u8.max) : RdB w w.heap.size (some ⟨b, o, spot⟩) n := by
  intro hn
  have h0 := hc 0 hn
  have hspot : spot = none := by simpa [Addr.add] using World.cell?_spot h0
  subst hspot
  have h1 : ∀ k, k < n → w.cell? ⟨b, o + k, none⟩ = some (.int .u8 (f k)) := fun k hk => by
    have h1 := hc k hk
    have e : (⟨b, o, none⟩ : Addr).add k = ⟨b, o + k, none⟩ := by unfold Addr.add; split <;> simp_all
    rw [e] at h1
    exact h1
  exact ⟨b, o, rfl, cellI_lt (h1 0 hn), fun k hk => ⟨f k, h1 k hk, (hf k hk).1, (hf k hk).2⟩⟩

theorem rBig_any (a : Option Addr) (n cap : Nat) (w : World) :
    Calls Tryd.prog 35 #[.slice a n cap] w fun e w' => e = .returned (.bool (decide ((65536 : Int) < (n : Int)))) ∧ w = w' := by
  go_enter Tryd.func35, Tryd.ntmps35
  go_wp2_with fail
  go_ret
  exact ⟨rfl, rfl⟩

set_option maxHeartbeats 1000000 in
theorem rInts_true (X : List Int) (n : Nat) (a1 a2 : Option Addr) (c1 c2 : Nat) (w : World) (h1 : RdI w a1 n X) (h2 : RdI w a2 n X) (hn : n ≤ 1048577) :
    Calls Tryd.prog 39 #[.slice a1 n c1, .slice a2 n c2] w fun e w' => e = .returned (.bool true) ∧ ∃ m, w' = w.drewN m := by
  rcases Nat.eq_zero_or_pos n with h0 | h0
  · subst h0
    clear h1 h2
    go_enter Tryd.func39, Tryd.ntmps39
    go_wp2
    refine wp_loop_rounds 1 ?_
    rw [rounds_succ]
    go_wp2
    go_ret
    exact ⟨rfl, 0, rfl⟩
  · obtain ⟨b1, o1, rfl, _, hc1⟩ := h1.2 h0
    obtain ⟨b2, o2, rfl, _, hc2⟩ := h2.2 h0
    have HL := Lib.hid h1.1
    clear h1 h2
    have H1 := Lib.hid hc1
    have H2 := Lib.hid hc2
    clear hc1 hc2
    go_enter Tryd.func39, Tryd.ntmps39
    go_wp2
    go_loopw [5] (fun i wr => ∃ k q : Nat, k ≤ n ∧ i = .int .i64 k ∧ wr = w.drewN q) (fun i _ => n - (intOf i).toNat)
    case atStart => exact ⟨0, 0, Nat.zero_le _, rfl, rfl⟩
    case round =>
      obtain ⟨k, q, hk, rfl, rfl⟩ := hrel
      by_cases hlt : k < n
      · obtain ⟨x, hx, _⟩ := atI_of_lt HL.out hlt
        have g1 := rdI_at H1.out hlt hx
        have g2 := rdI_at H2.out hlt hx
        clear hx
        go_wp2
        go_quiet (fail)
        go_wp2
        go_roundw
        case rel => exact ⟨k + 1, _, by omega, by go_num, rfl⟩
        case measure => simp [intOf]; omega
      · go_wp2
        go_ret
        exact ⟨rfl, q, rfl⟩
theorem rInts_b (X : List Int) (n : Nat) (a1 a2 : Option Addr) (c1 c2 : Nat) (w : World) (h1 : RdI w a1 n X) (h2 : RdI w a2 n X) (hn : n ≤ 1048577) :
    Calls Tryd.prog 39 #[.slice a1 n c1, .slice a2 n c2] w fun e w' => e = .returned (.bool true) ∧ Below w.heap.size w w' :=
  (rInts_true X n a1 a2 c1 c2 w h1 h2 hn).mono (fun e w' ⟨h1, q, h2⟩ => ⟨h1, by subst h2; exact below_drewN' (Below.refl _ _) q⟩)
/-! Regions out of tests are valid. -/
theorem regN_bit (P : Nat → Nat → Bool) (y x : Nat) : (regN P y).testBit x = (decide (x < 20) && (shB x y && P x y)) := by unfold regN; rw [rowN_bit]
theorem good_rows (f : Nat → Nat) (h : ∀ y, y < 24 → f y < 1048576 ∧ ∀ x, x < 20 → (f y).testBit x = true → shB x y = true) : goodR (rowsOfR f) = true := by
  refine goodR_yes (rowsOfR_len f) (fun y hy => ?_)
  rw [rowsOfR_getD f hy]
  exact (goodRow_bits (h y hy).1).2 (h y hy).2
theorem good_reg (P : Nat → Nat → Bool) : goodR (rowsOfR (regN P)) = true :=
  good_rows _ fun y _ => ⟨regN_lt P y, fun x hx hb => by rw [regN_bit] at hb; simp at hb; exact hb.2.1⟩
theorem good_zero : goodR (rowsOfR (fun _ => 0)) = true := good_rows _ fun y _ => ⟨by omega, fun x _ hb => by simp at hb⟩
theorem good_wf {X : List Int} (h : goodR X = true) : WfI X := fun z hz => by
  obtain ⟨i, hi, e⟩ := List.mem_iff_getElem.1 hz
  have hl := goodR_len h
  obtain ⟨a, b⟩ := goodR_nat h (y := i) (by omega)
  have e2 : X.getD i 0 = z := by simp [List.getD, List.getElem?_eq_getElem hi, e]
  rw [e2] at a b
  omega
theorem comb_union (P Q : Nat → Nat → Bool) (h : ∀ x y, Q x y = !P x y) : combL 1 (rowsOfR (regN P)) (rowsOfR (regN Q)) = rowsOfR shN := by
  unfold combL rowsOfR
  apply List.map_congr_left
  intro y hy
  rw [List.mem_range] at hy
  have e1 := rowsOfR_getD (regN P) hy
  have e2 := rowsOfR_getD (regN Q) hy
  unfold rowsOfR at e1 e2
  rw [e1, e2]
  show bits .or .i64 _ _ = _
  have l1 := regN_lt P y
  have l2 := regN_lt Q y
  rw [i64_or_nat _ _ (by omega) (by omega)]
  congr 1
  unfold shN
  refine rowN_eq (fun x => shB x y) ?_ (fun x hx => ?_)
  · have := Nat.or_lt_two_pow (show regN P y < 2 ^ 20 by omega) (show regN Q y < 2 ^ 20 by omega); omega
  · rw [Nat.testBit_or, regN_bit, regN_bit, h]
    simp only [hx, decide_true, Bool.true_and]
    cases shB x y <;> cases P x y <;> rfl
theorem comb_inter (P Q : Nat → Nat → Bool) (h : ∀ x y, Q x y = !P x y) : combL 2 (rowsOfR (regN P)) (rowsOfR (regN Q)) = rowsOfR (fun _ => 0) := by
  unfold combL rowsOfR
  apply List.map_congr_left
  intro y hy
  rw [List.mem_range] at hy
  have e1 := rowsOfR_getD (regN P) hy
  have e2 := rowsOfR_getD (regN Q) hy
  unfold rowsOfR at e1 e2
  rw [e1, e2]
  show bits .and .i64 _ _ = _
  have l1 := regN_lt P y
  have l2 := regN_lt Q y
  rw [i64_and_nat _ _ (by omega) (by omega)]
  congr 1
  apply Nat.eq_of_testBit_eq
  intro x
  rw [Nat.testBit_and, regN_bit, regN_bit, h, Nat.zero_testBit]
  cases decide (x < 20) <;> cases shB x y <;> cases P x y <;> rfl
theorem area_zero : ∀ y, y ≤ 24 → areaTo (rowsOfR (fun _ => 0)) y = 0
  | 0, _ => rfl
  | y + 1, h => by
    show areaTo _ y + popN _ = 0
    rw [area_zero y (by omega), rowsOfR_getD _ (by omega)]; rfl
theorem good_sh : goodR (rowsOfR shN) = true := by
  rw [← reg_shB]
  exact good_reg shB
/-- The area of a valid region, its rows named alone. -/
theorem area_named (X : List Int) (N : Int) (hg : RowKit.Hid (goodR X = true)) (hN : RowKit.Hid (((areaTo X 24 : Nat) : Int) = N)) (a : Option Addr) (c : Nat) (W : World) (h : RdI W a 24 X) :
    Calls Tryd.prog 40 #[.agg #[.slice a 24 c]] W fun e w' => e = .returned (.tuple #[.int .i64 N, .bool true]) ∧ Below W.heap.size W w' := by
  have hh := area_impl X 24 a c W h (good_wf hg.out) (by omega)
  rw [hg.out] at hh
  rw [if_pos rfl, hN.out] at hh
  exact hh
/-- The union of valid regions, its rows named alone. -/
theorem union_named (A B S : List Int) (hga : RowKit.Hid (goodR A = true)) (hgb : RowKit.Hid (goodR B = true)) (hs : RowKit.Hid (combL 1 A B = S)) (c1 c2 : Nat) (a1 a2 : Option Addr) (w : World) (h1 : RdI w a1 24 A) (h2 : RdI w a2 24 B) :
    Calls Tryd.prog 37 #[.agg #[.slice a1 24 c1], .agg #[.slice a2 24 c2], .int .i64 1] w (AnsRB w S 24 true) := by
  rw [← hs.out]
  exact comb_impl A B 1 c1 c2 a1 a2 w h1 h2 (good_wf hga.out) (good_wf hgb.out) hga.out hgb.out (by omega) (by omega)
/-- The shield's region, its rows named alone. -/
theorem shield_named (S : List Int) (hs : RowKit.Hid (rowsOfR shN = S)) (W : World) :
    Calls Tryd.prog 60 #[] W fun e w' => ∃ g : Nat, e = .returned (.agg #[.slice (some ⟨g, 0, none⟩) 24 24]) ∧ RdI w' (some ⟨g, 0, none⟩) 24 S ∧ Below W.heap.size W w' := by
  rw [← hs.out]
  exact (shield_impl W).mono (fun e w' ⟨g, h1, h2, h3⟩ => ⟨g, h1, h2.rd, h3⟩)
/-- The intersection of valid regions, its rows named alone. -/
theorem inter_named (A B S : List Int) (hga : RowKit.Hid (goodR A = true)) (hgb : RowKit.Hid (goodR B = true)) (hs : RowKit.Hid (combL 2 A B = S)) (c1 c2 : Nat) (a1 a2 : Option Addr) (w : World) (h1 : RdI w a1 24 A) (h2 : RdI w a2 24 B) :
    Calls Tryd.prog 37 #[.agg #[.slice a1 24 c1], .agg #[.slice a2 24 c2], .int .i64 2] w (AnsRB w S 24 true) := by
  rw [← hs.out]
  exact comb_impl A B 2 c1 c2 a1 a2 w h1 h2 (good_wf hga.out) (good_wf hgb.out) hga.out hgb.out (by omega) (by omega)
end Go.Proofs.YthapidnjioindaaDoor
