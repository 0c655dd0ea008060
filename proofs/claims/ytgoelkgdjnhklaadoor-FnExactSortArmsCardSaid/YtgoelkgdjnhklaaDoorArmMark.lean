/- Contract: the laws' markArmsS. -/
import Derived.Test.YtgoelkgdjnhklaaDoorArmRow2
import Derived.Deep.LoopGhost
namespace Go.Proofs.YtgoelkgdjnhklaaDoor
open Go.RowKit

theorem chain_grown {W : World} {g i : Nat} {v0 v1 v2 v3 v4 v5 v6 v7 v8 v9 v10 v11 v12 v13 v14 : Value} : W.grownBy (((((((((((((((W.setCell ⟨g, i, none⟩ v0).setCell ⟨g, i + 1, none⟩ v1).setCell ⟨g, i + 2, none⟩ v2).setCell ⟨g, i + 3, none⟩ v3).setCell ⟨g, i + 4, none⟩ v4).setCell ⟨g, i + 5, none⟩ v5).setCell ⟨g, i + 6, none⟩ v6).setCell ⟨g, i + 7, none⟩ v7).setCell ⟨g, i + 8, none⟩ v8).setCell ⟨g, i + 9, none⟩ v9).setCell ⟨g, i + 10, none⟩ v10).setCell ⟨g, i + 11, none⟩ v11).setCell ⟨g, i + 12, none⟩ v12).setCell ⟨g, i + 13, none⟩ v13).setCell ⟨g, i + 14, none⟩ v14) (some g) :=
  (((((((((((((((grownBy_set _ _ _ _).trans (grownBy_set _ _ _ _)).trans (grownBy_set _ _ _ _)).trans (grownBy_set _ _ _ _)).trans (grownBy_set _ _ _ _)).trans (grownBy_set _ _ _ _)).trans (grownBy_set _ _ _ _)).trans (grownBy_set _ _ _ _)).trans (grownBy_set _ _ _ _)).trans (grownBy_set _ _ _ _)).trans (grownBy_set _ _ _ _)).trans (grownBy_set _ _ _ _)).trans (grownBy_set _ _ _ _)).trans (grownBy_set _ _ _ _)).trans (grownBy_set _ _ _ _))
set_option maxRecDepth 100000 in
set_option maxHeartbeats 8000000 in
theorem markA_row (L0 : List Value) (n g cap : Nat) (w : World) (hL0 : L0.length = n * 15) (hbox0 : BoxF w g L0 37) (hn : n ≤ 1048576) :
    Calls Tryd.prog 53 #[.slice (some ⟨g, 0, none⟩) n cap, .int .i64 1] w fun e w' => e = .returned (.int .i64 (1 + (n : Int) * 15)) ∧ w.grownBy w' (some g) := by
  go_enter Tryd.func53, Tryd.ntmps53
  go_wp2_with fail
  go_loopg [1, 5] n (fun gh kk i wr => ∃ (j : Nat) (L : List Value), j + gh = n ∧ i = .int .i64 j ∧ kk = .int .i64 (1 + (j : Int) * 15) ∧ Hid (L.length = n * 15) ∧ BoxF wr g L 37 ∧ w.grownBy wr (some g))
  case atStart => exact ⟨0, L0, by omega, rfl, by simp, Lib.hid hL0, hbox0, World.grownBy.refl _ _⟩
  case round =>
    obtain ⟨j, L, hj, rfl, rfl, HLL, hbox, hgr⟩ := hrel
    by_cases hlt : j < n
    · obtain ⟨gh, rfl⟩ : ∃ gh, gk = gh + 1 := ⟨gk - 1, by omega⟩
      obtain ⟨u0, u1, u2, u3, u4, u5, u6, u7, u8, u9, u10, u11, u12, u13, u14, y0, y1, y2, y3, y4, y5, y6, y7, y8, y9, y10, y11, y12, y13, y14⟩ := row15 (i := j * 15) hbox (by have := HLL.out; omega)
      have uf := hbox.free
      have BX3 := Lib.hid (chain_box (i := j * 15) (v0 := .int .i64 (1 + (j : Int) * 15)) (v1 := .int .i64 (1 + (j : Int) * 15 + 1)) (v2 := .int .i64 (1 + (j : Int) * 15 + 1 + 1)) (v3 := .int .i64 (1 + (j : Int) * 15 + 1 + 1 + 1)) (v4 := .int .i64 (1 + (j : Int) * 15 + 1 + 1 + 1 + 1)) (v5 := .int .i64 (1 + (j : Int) * 15 + 1 + 1 + 1 + 1 + 1)) (v6 := .int .i64 (1 + (j : Int) * 15 + 1 + 1 + 1 + 1 + 1 + 1)) (v7 := .int .i64 (1 + (j : Int) * 15 + 1 + 1 + 1 + 1 + 1 + 1 + 1)) (v8 := .int .i64 (1 + (j : Int) * 15 + 1 + 1 + 1 + 1 + 1 + 1 + 1 + 1)) (v9 := .int .i64 (1 + (j : Int) * 15 + 1 + 1 + 1 + 1 + 1 + 1 + 1 + 1 + 1)) (v10 := .int .i64 (1 + (j : Int) * 15 + 1 + 1 + 1 + 1 + 1 + 1 + 1 + 1 + 1 + 1)) (v11 := .int .i64 (1 + (j : Int) * 15 + 1 + 1 + 1 + 1 + 1 + 1 + 1 + 1 + 1 + 1 + 1)) (v12 := .int .i64 (1 + (j : Int) * 15 + 1 + 1 + 1 + 1 + 1 + 1 + 1 + 1 + 1 + 1 + 1 + 1)) (v13 := .int .i64 (1 + (j : Int) * 15 + 1 + 1 + 1 + 1 + 1 + 1 + 1 + 1 + 1 + 1 + 1 + 1 + 1)) (v14 := .int .i64 (1 + (j : Int) * 15 + 1 + 1 + 1 + 1 + 1 + 1 + 1 + 1 + 1 + 1 + 1 + 1 + 1 + 1)) hbox)
      have G3 := Lib.hid (hgr.trans (chain_grown (W := wr) (g := g) (i := j * 15) (v0 := .int .i64 (1 + (j : Int) * 15)) (v1 := .int .i64 (1 + (j : Int) * 15 + 1)) (v2 := .int .i64 (1 + (j : Int) * 15 + 1 + 1)) (v3 := .int .i64 (1 + (j : Int) * 15 + 1 + 1 + 1)) (v4 := .int .i64 (1 + (j : Int) * 15 + 1 + 1 + 1 + 1)) (v5 := .int .i64 (1 + (j : Int) * 15 + 1 + 1 + 1 + 1 + 1)) (v6 := .int .i64 (1 + (j : Int) * 15 + 1 + 1 + 1 + 1 + 1 + 1)) (v7 := .int .i64 (1 + (j : Int) * 15 + 1 + 1 + 1 + 1 + 1 + 1 + 1)) (v8 := .int .i64 (1 + (j : Int) * 15 + 1 + 1 + 1 + 1 + 1 + 1 + 1 + 1)) (v9 := .int .i64 (1 + (j : Int) * 15 + 1 + 1 + 1 + 1 + 1 + 1 + 1 + 1 + 1)) (v10 := .int .i64 (1 + (j : Int) * 15 + 1 + 1 + 1 + 1 + 1 + 1 + 1 + 1 + 1 + 1)) (v11 := .int .i64 (1 + (j : Int) * 15 + 1 + 1 + 1 + 1 + 1 + 1 + 1 + 1 + 1 + 1 + 1)) (v12 := .int .i64 (1 + (j : Int) * 15 + 1 + 1 + 1 + 1 + 1 + 1 + 1 + 1 + 1 + 1 + 1 + 1)) (v13 := .int .i64 (1 + (j : Int) * 15 + 1 + 1 + 1 + 1 + 1 + 1 + 1 + 1 + 1 + 1 + 1 + 1 + 1)) (v14 := .int .i64 (1 + (j : Int) * 15 + 1 + 1 + 1 + 1 + 1 + 1 + 1 + 1 + 1 + 1 + 1 + 1 + 1 + 1))))
      clear hbox hgr hbox0 hL0
      go_wp2_with fail
      clear y0 y1 y2 y3 y4 y5 y6 y7 y8 y9 y10 y11 y12 y13 y14 uf
      generalize ((((((((((((((wr.setCell ⟨g, j * 15, none⟩ (.int .i64 (1 + (j : Int) * 15))).setCell ⟨g, j * 15 + 1, none⟩ (.int .i64 (1 + (j : Int) * 15 + 1))).setCell ⟨g, j * 15 + 2, none⟩ (.int .i64 (1 + (j : Int) * 15 + 1 + 1))).setCell ⟨g, j * 15 + 3, none⟩ (.int .i64 (1 + (j : Int) * 15 + 1 + 1 + 1))).setCell ⟨g, j * 15 + 4, none⟩ (.int .i64 (1 + (j : Int) * 15 + 1 + 1 + 1 + 1))).setCell ⟨g, j * 15 + 5, none⟩ (.int .i64 (1 + (j : Int) * 15 + 1 + 1 + 1 + 1 + 1))).setCell ⟨g, j * 15 + 6, none⟩ (.int .i64 (1 + (j : Int) * 15 + 1 + 1 + 1 + 1 + 1 + 1))).setCell ⟨g, j * 15 + 7, none⟩ (.int .i64 (1 + (j : Int) * 15 + 1 + 1 + 1 + 1 + 1 + 1 + 1))).setCell ⟨g, j * 15 + 8, none⟩ (.int .i64 (1 + (j : Int) * 15 + 1 + 1 + 1 + 1 + 1 + 1 + 1 + 1))).setCell ⟨g, j * 15 + 9, none⟩ (.int .i64 (1 + (j : Int) * 15 + 1 + 1 + 1 + 1 + 1 + 1 + 1 + 1 + 1))).setCell ⟨g, j * 15 + 10, none⟩ (.int .i64 (1 + (j : Int) * 15 + 1 + 1 + 1 + 1 + 1 + 1 + 1 + 1 + 1 + 1))).setCell ⟨g, j * 15 + 11, none⟩ (.int .i64 (1 + (j : Int) * 15 + 1 + 1 + 1 + 1 + 1 + 1 + 1 + 1 + 1 + 1 + 1))).setCell ⟨g, j * 15 + 12, none⟩ (.int .i64 (1 + (j : Int) * 15 + 1 + 1 + 1 + 1 + 1 + 1 + 1 + 1 + 1 + 1 + 1 + 1))).setCell ⟨g, j * 15 + 13, none⟩ (.int .i64 (1 + (j : Int) * 15 + 1 + 1 + 1 + 1 + 1 + 1 + 1 + 1 + 1 + 1 + 1 + 1 + 1))).setCell ⟨g, j * 15 + 14, none⟩ (.int .i64 (1 + (j : Int) * 15 + 1 + 1 + 1 + 1 + 1 + 1 + 1 + 1 + 1 + 1 + 1 + 1 + 1 + 1)) = W3 at *
      go_roundg gh
      case measure => omega
      case rel => exact ⟨j + 1, _, by omega, by go_num, by go_num, Lib.hid (by rw [putL_len]; exact HLL.out), BX3.out, G3.out⟩
    · obtain rfl : j = n := by omega
      have HG := Lib.hid hgr
      clear hbox hgr hbox0
      go_wp2_with fail
      go_ret
      exact ⟨rfl, HG.out⟩
theorem markA_nil (a : Option Addr) (c : Nat) (w : World) :
    Calls Tryd.prog 53 #[.slice a 0 c, .int .i64 1] w fun e w' => e = .returned (.int .i64 1) ∧ w = w' := by
  go_enter Tryd.func53, Tryd.ntmps53
  go_wp2_with fail
  refine wp_loop_rounds 1 ?_
  rw [rounds_succ]
  go_wp2_with fail
  go_ret
  exact ⟨rfl, rfl⟩
theorem markA1 (n g cap : Nat) (w : World) (hbox : 0 < n → ∃ L : List Value, L.length = n * 15 ∧ BoxF w g L 37) (hn : n ≤ 1048576) :
    Calls Tryd.prog 53 #[.slice (some ⟨g, 0, none⟩) n cap, .int .i64 1] w fun e w' => e = .returned (.int .i64 (1 + (n : Int) * 15)) ∧ ∃ row, w.grownBy w' row ∧ ∀ q, row = some q → q = g ∧ 0 < n := by
  rcases Nat.eq_zero_or_pos n with rfl | h
  · exact (markA_nil _ _ _).mono fun e w' ⟨he, hw⟩ => ⟨he, none, by subst hw; exact World.grownBy.refl _ _, fun q h => by cases h⟩
  · obtain ⟨L, h1, h2⟩ := hbox h
    exact (markA_row L n g cap w h1 h2 hn).mono fun e w' ⟨he, hg⟩ => ⟨he, some g, hg, fun q hq => by cases hq; exact ⟨rfl, h⟩⟩
end Go.Proofs.YtgoelkgdjnhklaaDoor
