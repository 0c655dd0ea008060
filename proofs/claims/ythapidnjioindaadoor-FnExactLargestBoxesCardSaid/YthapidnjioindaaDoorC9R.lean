/- Contracts: the regions of the shield, of parts and of ordinaries, the program's and the model's. -/
import Derived.Test.YthapidnjioindaaDoorC9W
import Derived.Test.YthapidnjioindaaDoorC9O
namespace Go.Proofs.YthapidnjioindaaDoor
open Go.RowKit

/-- An answer that is a region of these rows and a truth value, in memory of its own. -/
def AnsRB (W : World) (X : List Int) (n : Nat) (ok : Bool) (e : Ending) (w' : World) : Prop := ∃ (a : Option Addr) (c : Nat), e = .returned (.tuple #[.agg #[.slice a n c], .bool ok]) ∧ OwnI w' W.heap.size a n c X ∧ Below W.heap.size W w'
theorem rowsOfR_len (f : Nat → Nat) : (rowsOfR f).length = 24 := by simp [rowsOfR]
theorem reg_shB : regN shB = shN := by
  funext y; unfold regN shN; simp

theorem shield_impl (w : World) : Calls Tryd.prog 60 #[] w (AnsR w shN) := by
  have b0 := BoxF.new w [.slice none 0 0] 26
  have hb0 : Below w.heap.size w (w.alloc (.cells #[.slice none 0 0] 26 (0, 0))) := (Below.refl _ w).alloc (Nat.le_refl _) _
  have X0 := Lib.hid b0
  have HB0 := Lib.hid hb0
  clear b0 hb0
  go_enter Tryd.func60, Tryd.ntmps60
  go_wp2_with fail
  refine (whereIn shB _ (fun W _ x y hx hy => (inShield_impl x y W).mono (fun e w' h => ⟨by rw [h.1, shZ_nat hx hy], by rw [h.2]; exact Below.refl _ _⟩))).mono ?_
  rintro e w1 ⟨g, rfl, ho, hb1⟩
  rw [reg_shB] at ho
  have X1 := X0.out.below hb1
  have HB1 := HB0.out.trans (hb1.mono HB0.out.size)
  obtain ⟨c0, f0⟩ := X1.one
  have hf0 := f0 0
  have X9 := X1.set 0 (.slice (some ⟨g, 0, none⟩) 24 24)
  obtain ⟨z0, _⟩ := X9.one
  have HG := grownBy_set w1 w.heap.size 0 (.slice (some ⟨g, 0, none⟩) 24 24)
  have hgg := (World.ownsRow.lt ho g rfl).1
  simp only [World.size_alloc] at hgg
  have HO9 := Lib.hid (OwnI.kept (OwnI.low ho (B' := w.heap.size) (by simp)) HG (by right; simp [Value.ownBlock]; omega))
  have HB9 := Lib.hid (HB1.grown HG HB1.size (fun q hq => by cases hq; exact Nat.le_refl _))
  clear X9 HG ho hb1 f0 X1 HB1 X0 HB0
  go_wp2_with fail
  exact bodyPost_ret (v := .agg #[.slice (some ⟨g, 0, none⟩) 24 24]) (by simp [results, Tryd.results60, go_sem, z0]) rfl ⟨_, rfl, HO9.out, HB9.out⟩

set_option maxHeartbeats 1000000 in
theorem l9Empty_any (w : World) : Calls Tryd.prog 79 #[] w fun e w' => ∃ g : Nat, e = .returned (.agg #[.slice (some ⟨g, 0, none⟩) 24 24]) ∧ OwnI w' w.heap.size (some ⟨g, 0, none⟩) 24 24 (List.replicate 24 0) ∧ Below w.heap.size w w' := by
  obtain ⟨i0, hi, hz0, hz1, hz2⟩ := info_parts infoI
  have b0 := BoxF.new w [.slice none 0 0] 26
  have hb0 : Below w.heap.size w (w.alloc (.cells #[.slice none 0 0] 26 (0, 0))) := (Below.refl _ w).alloc (Nat.le_refl _) _
  have HB0 := Lib.hid hb0
  have X0 := Lib.hid b0
  clear b0 hb0
  go_enter Tryd.func79, Tryd.ntmps79
  go_wp2_with (at_make; refine wpList_make_full _ rfl _ _ 24 rfl (w.heap.size + 1) 3 i0 (.int .i64 0) 1 Tryd.underlying24 hi hz0 hz1 .i64 .i64 24 24 24 rfl rfl rfl rfl (by rw [hz2]; omega) (by unfold maxLen; omega) (by simp) ?_; intro w1 hown1 hgr1; have X1 := X0.out.kept hgr1 (by simp); obtain ⟨c0, f0⟩ := X1.one; have hf0 := f0 0; have X9 := X1.set 0 (.slice (some ⟨w.heap.size + 1, 0, none⟩) 24 24); obtain ⟨z0, _⟩ := X9.one; have HX1 := Lib.hid X1; clear X1 X9)
  have hfil : OwnI w1 (w.heap.size + 1) (some ⟨w.heap.size + 1, 0, none⟩) 24 24 (List.replicate 24 0) := by
    unfold OwnI
    rw [List.map_replicate, ← toList_madeCells_one]
    rw [Nat.mul_one] at hown1
    simp only [World.size_alloc] at hown1
    exact hown1
  have HB1 := HB0.out.grown hgr1 (by simp) (by simp)
  have HG := grownBy_set w1 w.heap.size 0 (.slice (some ⟨w.heap.size + 1, 0, none⟩) 24 24)
  have HO9 := Lib.hid (OwnI.kept (OwnI.low hfil (B' := w.heap.size) (by omega)) HG (by right; simp [Value.ownBlock]))
  have HB9 := Lib.hid (HB1.grown HG HB1.size (fun q hq => by cases hq; exact Nat.le_refl _))
  clear HG hfil f0 HX1 HB1 X0 HB0 hown1 hgr1
  exact bodyPost_ret (v := .agg #[.slice (some ⟨w.heap.size + 1, 0, none⟩) 24 24]) (by simp [results, Tryd.results79, go_sem, z0]) rfl ⟨_, rfl, HO9.out, HB9.out⟩
theorem grownBy_drewN {w w' : World} {r : Option Nat} (h : w.grownBy w' r) (m : Nat) : w.grownBy (w'.drewN m) r := ⟨h.os, h.tape, h.output, h.size, h.block⟩
set_option maxRecDepth 100000 in
set_option maxHeartbeats 1000000 in
theorem l9Add_any (X : List Int) (B g cap x y N : Nat) (w : World) (h : OwnI w B (some ⟨g, 0, none⟩) 24 cap X) (hx : x < 20) (hy : y < 24) (hN : X[y]? = some (N : Int)) (hN2 : N < 1048576) :
    Calls Tryd.prog 135 #[.agg #[.slice (some ⟨g, 0, none⟩) 24 cap], .int .i64 (x : Int), .int .i64 (y : Int)] w fun e w' => e = .returned (.tuple #[]) ∧ OwnI w' B (some ⟨g, 0, none⟩) 24 cap (if shB x y then X.set y ((N ||| 2 ^ x : Nat) : Int) else X) ∧ w.grownBy w' (some g) := by
  have hg := (World.ownsRow.lt h g rfl).2
  have CI := Lib.hid (fun W => l9In_any (x : Int) (y : Int) W)
  rw [shZ_nat hx hy] at CI
  have b0 := BoxF.new w [.slice (some ⟨g, 0, none⟩) 24 cap] 26
  have hal := World.grownBy_alloc w (.cells #[.slice (some ⟨g, 0, none⟩) 24 cap] 26 (0, 0)) (some g)
  have h1 : OwnI (w.alloc (.cells #[.slice (some ⟨g, 0, none⟩) 24 cap] 26 (0, 0))) B (some ⟨g, 0, none⟩) 24 cap X := h.below ((Below.refl _ w).alloc (Nat.le_refl _) _)
  obtain ⟨c0, f0⟩ := b0.one
  have hf0 := f0 0
  have hp2 : 2 ^ x < 1048576 := by
    have := Nat.pow_lt_pow_right (a := 2) (by decide) hx
    omega
  have hor := i64_or_nat N (2 ^ x) (by omega) (by omega)
  have hc1 := h1.cellAt y hy
  rw [List.getElem?_map, hN] at hc1
  simp only [Option.map_some] at hc1
  have hf1 := h1.frozenAt y
  have HO3 := h.stored y (.int .i64 ((N ||| 2 ^ x : Nat) : Int))
  have HAL := Lib.hid hal
  have H1 := Lib.hid h1
  have HST := Lib.hid HO3
  have HOR := Lib.hid hor
  have HF1 := Lib.hid hf1
  have HC1 := Lib.hid hc1
  clear h hal h1 HO3 f0 b0 hor hf1 hc1
  cases hs : shB x y
  · rw [hs] at CI
    go_enter Tryd.func135, Tryd.ntmps135
    go_wp2_with fail
    refine (CI.out _).mono ?_
    rintro e w' ⟨rfl, rfl⟩
    go_wp2_with fail
    go_end0
    exact ⟨rfl, by simpa using H1.out, HAL.out⟩
  · rw [hs] at CI
    go_enter Tryd.func135, Tryd.ntmps135
    go_wp2_with fail
    refine (CI.out _).mono ?_
    rintro e w' ⟨rfl, rfl⟩
    go_wp2_with fail
    have hf1 := HF1.out
    have hc1 := HC1.out
    go_region
    rw [wrap_pow hp2, HOR.out]
    have HA := World.grownBy_alloc (w.setCell ⟨g, y, none⟩ (.int .i64 ((N ||| 2 ^ x : Nat) : Int))) (.cells #[.slice (some ⟨g, 0, none⟩) 24 cap] 26 (0, 0)) (some g)
    have HO4 : OwnI (w.setCell ⟨g, y, none⟩ (.int .i64 ((N ||| 2 ^ x : Nat) : Int))) B (some ⟨g, 0, none⟩) 24 cap (X.set y ((N ||| 2 ^ x : Nat) : Int)) := by
      unfold OwnI
      rw [List.map_set]
      exact HST.out.1
    have HO5 := Lib.hid ((HO4.below ((Below.refl _ _).alloc (Nat.le_refl _) (.cells #[.slice (some ⟨g, 0, none⟩) 24 cap] 26 (0, 0)))).drewN 1)
    have HG5 := Lib.hid (HST.out.2.trans HA)
    clear HA HO4 hf1 hc1
    go_wp2_with fail
    go_end0
    exact ⟨rfl, HO5.out, grownBy_drewN HG5.out 1⟩
end Go.Proofs.YthapidnjioindaaDoor
