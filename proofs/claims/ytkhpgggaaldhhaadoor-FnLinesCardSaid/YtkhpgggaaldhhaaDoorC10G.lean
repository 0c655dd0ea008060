/- What FnLines needs: offsets repeat, the areas of a part and of the other one, contracts over named rows. -/
import Derived.Test.YtkhpgggaaldhhaaDoorC10E
namespace Go.Proofs.YtkhpgggaaldhhaaDoor
open Go.RowKit

theorem cntB_compl (s p : Nat → Bool) : ∀ k, cntB (fun x => s x && p x) k + cntB (fun x => s x && !p x) k = cntB s k
  | 0 => rfl
  | k + 1 => by
    rw [cntB_succ, cntB_succ, cntB_succ, ← cntB_compl s p k]
    cases s k <;> cases p k <;> simp <;> omega
theorem pop_reg (P : Nat → Nat → Bool) (y : Nat) : popN (regN P y) = cntB (fun x => shB x y && P x y) 20 := by
  unfold popN
  refine cntB_congr fun x hx => ?_
  rw [regN_bit]
  simp [hx]
theorem pop_sh (y : Nat) : popN (shN y) = cntB (fun x => shB x y) 20 := by
  have h := pop_reg (fun _ _ => true) y
  have e : regN (fun _ _ => true) y = shN y := by unfold regN shN; simp
  rw [e] at h
  rw [h]
  exact cntB_congr fun x _ => by simp
theorem area_compl (P Q : Nat → Nat → Bool) (h : ∀ x y, Q x y = !P x y) : ∀ y, y ≤ 24 → areaTo (rowsOfR (regN P)) y + areaTo (rowsOfR (regN Q)) y = areaTo (rowsOfR shN) y
  | 0, _ => rfl
  | y + 1, hy => by
    have ih := area_compl P Q h y (by omega)
    show areaTo _ y + popN _ + (areaTo _ y + popN _) = areaTo _ y + popN _
    rw [rowsOfR_getD _ (by omega), rowsOfR_getD _ (by omega), rowsOfR_getD _ (by omega)]
    simp only [Int.toNat_natCast]
    rw [pop_reg, pop_reg, pop_sh, ← cntB_compl (fun x => shB x y) (fun x => P x y) 20]
    have e : cntB (fun x => shB x y && Q x y) 20 = cntB (fun x => shB x y && !P x y) 20 := cntB_congr fun x _ => by rw [h]
    rw [e]
    omega
theorem good_sh : goodR (rowsOfR shN) = true := by
  rw [← reg_shB]
  exact good_reg shB
theorem off_again (l : Int) (t : Nat) : offZ l (t + (offL l).length) = offZ l t := by
  unfold offZ
  rw [Nat.add_mod_right]
/-- The union of valid regions, its rows named alone. -/
theorem union_named (A B S : List Int) (hga : RowKit.Hid (goodR A = true)) (hgb : RowKit.Hid (goodR B = true)) (hs : RowKit.Hid (combL 1 A B = S)) (c1 c2 : Nat) (a1 a2 : Option Addr) (w : World) (h1 : RdI w a1 24 A) (h2 : RdI w a2 24 B) :
    Calls Tryd.prog 23 #[.agg #[.slice a1 24 c1], .agg #[.slice a2 24 c2], .int .i64 1] w (AnsRB w S 24 true) := by
  rw [← hs.out]
  exact comb_impl A B 1 c1 c2 a1 a2 w h1 h2 (good_wf hga.out) (good_wf hgb.out) hga.out hgb.out (by omega) (by omega)
/-- The shield's region, its rows named alone. -/
theorem shield_named (S : List Int) (hs : RowKit.Hid (rowsOfR shN = S)) (W : World) :
    Calls Tryd.prog 25 #[] W fun e w' => ∃ g : Nat, e = .returned (.agg #[.slice (some ⟨g, 0, none⟩) 24 24]) ∧ RdI w' (some ⟨g, 0, none⟩) 24 S ∧ Below W.heap.size W w' := by
  rw [← hs.out]
  exact (shield_impl W).mono (fun e w' ⟨g, h1, h2, h3⟩ => ⟨g, h1, h2.rd, h3⟩)
/-- All that the law asks of a part of a field with a line and of the other one. -/
theorem parts_line (d l f s p : Int) (w : World) (hT : OffsLie w) (hF : FOk d l f s) (hp0 : 0 ≤ p) (hp1 : p ≤ 1) (X : List Int) (hX : RowKit.Hid (rowsOfR (regN (fun i j => ((if lnFirst d l i j = true then (0 : Int) else 1) == p))) = X)) :
    ∃ (Y S : List Int) (n1 n2 n3 : Int), RowKit.Hid (goodR X = true) ∧ RowKit.Hid (goodR Y = true) ∧ RowKit.Hid (goodR S = true) ∧ RowKit.Hid (combL 1 X Y = S) ∧ RowKit.Hid (rowsOfR shN = S) ∧ RowKit.Hid (((areaTo X 24 : Nat) : Int) = n1) ∧ RowKit.Hid (((areaTo Y 24 : Nat) : Int) = n2) ∧ RowKit.Hid (((areaTo S 24 : Nat) : Int) = n3) ∧ n1 + n2 = n3 ∧ (0 ≤ n1 ∧ n1 ≤ 1000 ∧ 0 ≤ n2 ∧ n2 ≤ 1000) ∧
      (∀ W, Below w.heap.size w W → Calls Tryd.prog 20 #[.agg #[.int .i64 d, .int .i64 l, .int .i64 f, .int .i64 s], .int .i64 (1 - p)] W (AnsRB W Y 24 true)) := by
  have hPQ : ∀ x y : Nat, (fun i j => ((if lnFirst d l i j = true then (0 : Int) else 1) == (1 - p))) x y = !(fun i j => ((if lnFirst d l i j = true then (0 : Int) else 1) == p)) x y := fun x y => by
    have hp : p = 0 ∨ p = 1 := by omega
    show ((if lnFirst d l x y = true then (0 : Int) else 1) == (1 - p)) = !((if lnFirst d l x y = true then (0 : Int) else 1) == p)
    rcases hp with rfl | rfl <;> cases lnFirst d l x y <;> decide
  have ha := area_compl _ _ hPQ 24 (by omega)
  have h1 := areaTo_le (rowsOfR (regN (fun i j => ((if lnFirst d l i j = true then (0 : Int) else 1) == p)))) 24
  have h2 := areaTo_le (rowsOfR (regN (fun i j => ((if lnFirst d l i j = true then (0 : Int) else 1) == (1 - p))))) 24
  refine ⟨_, _, _, _, _, Lib.hid (by rw [← hX.out]; exact good_reg _), Lib.hid (good_reg (fun i j => ((if lnFirst d l i j = true then (0 : Int) else 1) == (1 - p)))), Lib.hid good_sh, Lib.hid (by rw [← hX.out]; exact comb_union _ _ hPQ), Lib.hid rfl, Lib.hid rfl, Lib.hid rfl, Lib.hid rfl, ?_, ?_, fun W hb => fregion_impl d l f s (1 - p) W (hT.below hb) hF (by omega) (by omega)⟩
  · rw [← hX.out]; omega
  · rw [← hX.out]; omega
end Go.Proofs.YtkhpgggaaldhhaaDoor
