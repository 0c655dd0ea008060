/- Contract: the program's comparison of two texts by their places (the closure of SortArms). -/
import Derived.Test.YtgoelkgdjnhklaaDoorKN
import Derived.Deep.RegionHeld3
import Derived.Shelf.Small.Strs
namespace Go.Proofs.YtgoelkgdjnhklaaDoor
open Go.RowKit

/-- What the comparison needs of a world: the box of the row of texts, and the two texts. -/
def SC (W0 : World) (tb tr n c2 x y : Nat) (TX TY : ByteArray) (W : World) : Prop :=
  (∃ q, W = W0.drewN q) ∧ W.cell? ⟨tb, 0, none⟩ = some (.slice (some ⟨tr, 0, none⟩) n c2) ∧ W.cell? ⟨tr, x, none⟩ = some (.string TX) ∧ W.cell? ⟨tr, y, none⟩ = some (.string TY)
theorem SC.box {W0 W : World} {tb tr n c2 x y : Nat} {TX TY : ByteArray} (h : SC W0 tb tr n c2 x y TX TY W) : W.cell? ⟨tb, 0, none⟩ = some (.slice (some ⟨tr, 0, none⟩) n c2) := h.2.1
theorem SC.cx {W0 W : World} {tb tr n c2 x y : Nat} {TX TY : ByteArray} (h : SC W0 tb tr n c2 x y TX TY W) : W.cell? ⟨tr, x, none⟩ = some (.string TX) := h.2.2.1
theorem SC.cy {W0 W : World} {tb tr n c2 x y : Nat} {TX TY : ByteArray} (h : SC W0 tb tr n c2 x y TX TY W) : W.cell? ⟨tr, y, none⟩ = some (.string TY) := h.2.2.2
theorem SC.drew {W0 : World} {tb tr n c2 x y : Nat} {TX TY : ByteArray} (hb : W0.cell? ⟨tb, 0, none⟩ = some (.slice (some ⟨tr, 0, none⟩) n c2)) (hx : W0.cell? ⟨tr, x, none⟩ = some (.string TX)) (hy : W0.cell? ⟨tr, y, none⟩ = some (.string TY)) : SC W0 tb tr n c2 x y TX TY W0.drew := ⟨⟨1, rfl⟩, hb, hx, hy⟩
set_option linter.unusedSimpArgs false in
set_option maxRecDepth 100000 in
set_option maxHeartbeats 8000000 in
theorem cmpT (tb tr n c2 x y : Nat) (TX TY : ByteArray) (W0 : World) (hb : W0.cell? ⟨tb, 0, none⟩ = some (.slice (some ⟨tr, 0, none⟩) n c2)) (hx : W0.cell? ⟨tr, x, none⟩ = some (.string TX)) (hy : W0.cell? ⟨tr, y, none⟩ = some (.string TY)) (hxn : x < n) (hyn : y < n)
    (CC : ∀ (a b : ByteArray) (w : World), Calls Tryd.prog 69 #[.string a, .string b] w fun e w' => e = .returned (.int .i64 (Lib.compareBytes a.data.toList b.data.toList)) ∧ w' = w) :
    Calls Tryd.prog 68 #[.int .i64 (x : Int), .int .i64 (y : Int), .pointer (some ⟨tb, 0, none⟩)] W0 fun e w' => e = .returned (.int .i64 (Lib.compareBytes TX.data.toList TY.data.toList)) ∧ ∃ q, w' = W0.drewN q := by
  have hS0 : SC W0 tb tr n c2 x y TX TY W0.drew := SC.drew hb hx hy
  have b0 : (0 : Int) ≤ (x : Int) := by omega
  have b1 : (x : Int) < (n : Int) := by omega
  have b2 : (0 : Int) ≤ (y : Int) := by omega
  have b3 : (y : Int) < (n : Int) := by omega
  have a1 : (x : Int).toNat = x := by omega
  have a2 : (y : Int).toNat = y := by omega
  clear hb hx hy
  go_enter Tryd.func68, Tryd.ntmps68
  go_upto_region 1 with fail
  refine wp_region_noPanic ?_
  refine wp_region_held_drew (S := SC W0 tb tr n c2 x y TX TY) (by kernel_rfl) hS0 (fun hHeld => ?_)
  clear hS0
  generalize W0.drew = Wd at *
  refine wpAnyH_take (i := 0) (oi := { dst := some 6, op := _, type := _, pos := _, after := _, guard := _ }) (v := .slice (some ⟨tr, 0, none⟩) n c2) rfl (by kernel_rfl) (by kernel_rfl) (by kernel_rfl) (fun _ _ _ h => h) (Or.inl ⟨by rfl, ?_⟩) hHeld ?_
  · (intro w hSw; have c_ := hSw.box; clear hSw; go_simp; first | done | rfl)
  set_option linter.unusedSimpArgs false in try simp only [Act.put, List.setIfInBounds_toArray, List.set_cons_zero, List.set_cons_succ]
  refine wpAnyH_take (i := 1) (oi := { dst := some 7, op := _, type := _, pos := _, after := _, guard := _ }) (v := .int .i64 (x : Int)) rfl (by kernel_rfl) (by kernel_rfl) (by kernel_rfl) (fun _ _ _ h => h) (Or.inl ⟨by rfl, ?_⟩) hHeld ?_
  · (intro w hSw; clear hSw; go_simp; first | done | with_reducible rfl | rfl)
  set_option linter.unusedSimpArgs false in try simp only [Act.put, List.setIfInBounds_toArray, List.set_cons_zero, List.set_cons_succ]
  refine wpAnyH_take (i := 2) (oi := { dst := some 8, op := _, type := _, pos := _, after := _, guard := _ }) (v := .pointer (some ⟨tr, x, none⟩)) rfl (by kernel_rfl) (by kernel_rfl) (by kernel_rfl) (fun _ _ _ h => h) (Or.inl ⟨by rfl, ?_⟩) hHeld ?_
  · (intro w hSw; clear hSw; go_simp; first | done | with_reducible rfl | rfl)
  set_option linter.unusedSimpArgs false in try simp only [Act.put, List.setIfInBounds_toArray, List.set_cons_zero, List.set_cons_succ]
  refine wpAnyH_take (i := 3) (oi := { dst := some 9, op := _, type := _, pos := _, after := _, guard := _ }) (v := .string TX) rfl (by kernel_rfl) (by kernel_rfl) (by kernel_rfl) (fun _ _ _ h => h) (Or.inl ⟨by rfl, ?_⟩) hHeld ?_
  · (intro w hSw; have c_ := hSw.cx; clear hSw; go_simp; first | done | rfl)
  set_option linter.unusedSimpArgs false in try simp only [Act.put, List.setIfInBounds_toArray, List.set_cons_zero, List.set_cons_succ]
  refine wpAnyH_take (i := 4) (oi := { dst := some 10, op := _, type := _, pos := _, after := _, guard := _ }) (v := .slice (some ⟨tr, 0, none⟩) n c2) rfl (by kernel_rfl) (by kernel_rfl) (by kernel_rfl) (fun _ _ _ h => h) (Or.inl ⟨by rfl, ?_⟩) hHeld ?_
  · (intro w hSw; have c_ := hSw.box; clear hSw; go_simp; first | done | rfl)
  set_option linter.unusedSimpArgs false in try simp only [Act.put, List.setIfInBounds_toArray, List.set_cons_zero, List.set_cons_succ]
  refine wpAnyH_take (i := 5) (oi := { dst := some 11, op := _, type := _, pos := _, after := _, guard := _ }) (v := .int .i64 (y : Int)) rfl (by kernel_rfl) (by kernel_rfl) (by kernel_rfl) (fun _ _ _ h => h) (Or.inl ⟨by rfl, ?_⟩) hHeld ?_
  · (intro w hSw; clear hSw; go_simp; first | done | with_reducible rfl | rfl)
  set_option linter.unusedSimpArgs false in try simp only [Act.put, List.setIfInBounds_toArray, List.set_cons_zero, List.set_cons_succ]
  refine wpAnyH_take (i := 6) (oi := { dst := some 12, op := _, type := _, pos := _, after := _, guard := _ }) (v := .pointer (some ⟨tr, y, none⟩)) rfl (by kernel_rfl) (by kernel_rfl) (by kernel_rfl) (fun _ _ _ h => h) (Or.inl ⟨by rfl, ?_⟩) hHeld ?_
  · (intro w hSw; clear hSw; go_simp; first | done | with_reducible rfl | rfl)
  set_option linter.unusedSimpArgs false in try simp only [Act.put, List.setIfInBounds_toArray, List.set_cons_zero, List.set_cons_succ]
  refine wpAnyH_take (i := 7) (oi := { dst := some 13, op := _, type := _, pos := _, after := _, guard := _ }) (v := .string TY) rfl (by kernel_rfl) (by kernel_rfl) (by kernel_rfl) (fun _ _ _ h => h) (Or.inl ⟨by rfl, ?_⟩) hHeld ?_
  · (intro w hSw; have c_ := hSw.cy; clear hSw; go_simp; first | done | rfl)
  set_option linter.unusedSimpArgs false in try simp only [Act.put, List.setIfInBounds_toArray, List.set_cons_zero, List.set_cons_succ]
  refine wpAnyH_ready (rs := [8]) (by kernel_rfl) (by simp) ?_
  refine AllReadyH.cons rfl (fun K hK => ?_) ?_
  rotate_left
  · exact AllReadyH.nil
  try rw [if_pos (by rfl)]
  go_simp
  refine (CC _ _ _).mono ?_
  rintro e Wb ⟨rfl, rfl⟩
  go_wp2_with fail
  refine hK.out _ _ hHeld (fun hHeld => ?_)
  clear hK K
  set_option linter.unusedSimpArgs false in try simp only [Act.put, List.setIfInBounds_toArray, List.set_cons_zero, List.set_cons_succ]
  refine wpAnyH_take (i := 9) (oi := { dst := some 5, op := _, type := _, pos := _, after := _, guard := _ }) (v := .int .i64 (Lib.compareBytes TX.data.toList TY.data.toList)) rfl (by kernel_rfl) (by kernel_rfl) (by kernel_rfl) (fun _ _ _ h => h) (Or.inl ⟨by rfl, ?_⟩) hHeld ?_
  · (intro w hSw; clear hSw; go_simp; first | done | with_reducible rfl | rfl)
  set_option linter.unusedSimpArgs false in try simp only [Act.put, List.setIfInBounds_toArray, List.set_cons_zero, List.set_cons_succ]
  refine wpAnyH_done (by kernel_rfl) ?_ _
  refine NoPanic.normal ?_
  go_wp2_with fail
  go_ret
  exact ⟨by simp, hHeld.1⟩
end Go.Proofs.YtgoelkgdjnhklaaDoor
