/- Contracts: TincturesAgainst of the program and of the model. -/
import Derived.Test.YtflfdngcgebmmaaDoorBases
import Derived.Test.YtflfdngcgebmmaaDoorClash
namespace Go.Proofs.YtflfdngcgebmmaaDoor
open Go.RowKit

theorem ownI_append {w : World} {B : Nat} {v : Value} {n : Nat} {X : List Int} (h : w.ownsRow B 3 1 v n (X.map (Value.int .i64))) : ∃ a cap, v = .slice a n cap ∧ OwnI w B a n cap X := by
  rcases h.2 with ⟨rfl, rfl⟩ | ⟨g, cap, cur, rfl, h2, h3⟩
  · exact ⟨none, 0, rfl, h⟩
  · exact ⟨some ⟨g, 0, none⟩, cap, rfl, h⟩
theorem agL_zero (x : Int) : agL x 0 = [] := rfl
theorem sliceR {w : World} {B : Nat} {v : Value} {n : Nat} {X Y : List Int} (h : w.ownsRow B 3 1 v n (X.map (Value.int .i64))) (e : X = Y) : w.ownsRow B 3 1 v Y.length (Y.map (Value.int .i64)) := by
  subst e
  have hl : X.length = n := by have := h.1; simpa using this
  rw [hl]; exact h
theorem app_len {w : World} {B : Nat} {v : Value} {n : Nat} {X : List Int} (h : w.ownsRow B 3 1 v n (X.map (Value.int .i64))) : X.length = n := by have := h.1; simpa using this
theorem app_one {w : World} {B : Nat} {v : Value} {n : Nat} {X : List Int} {x : Int} (h : w.ownsRow B 3 1 v n (X.map (Value.int .i64) ++ [.int .i64 x])) : w.ownsRow B 3 1 v n ((X ++ [x]).map (Value.int .i64)) := by simpa using h

set_option maxHeartbeats 1000000 in
theorem against_impl (x : Int) (w : World) (h0 : 1 ≤ x) (h1 : x ≤ 9) :
    Calls Tryd.prog 15 #[.int .i64 x] w (Ans w (agL x 9) true) := by
  have c := isT_yes x w h0 h1
  obtain ⟨i0, hi, hz0, hz1, hz2⟩ := info_parts infoI
  go_enter Tryd.func15, Tryd.ntmps15
  go_wp2_with fail
  refine c.mono ?_
  rintro e w' ⟨rfl, rfl⟩
  go_wp2_with fail
  clear c
  go_loopw [4, 5] (fun v y wr => ∃ k : Nat, k ≤ 9 ∧ y = .int .i64 ((k : Int) + 1) ∧ wr.ownsRow w.heap.size 3 1 v (agL x k).length ((agL x k).map (Value.int .i64)) ∧ Below w.heap.size w wr) (fun _ y _ => 10 - (intOf y).toNat)
  case atStart => exact ⟨0, by omega, rfl, World.ownsRow_nil _ _ _ _, Below.refl _ _⟩
  case round =>
    obtain ⟨k, hk, rfl, ho, hb⟩ := hrel
    by_cases hlt : k < 9
    · have hl := agL_len x k
      cases hc : clashB x ((k : Int) + 1)
      · have cc := clash_yes x ((k : Int) + 1) wr h0 h1 (by omega) (by omega)
        rw [hc] at cc
        have HA := Lib.hid (agL_in hc)
        clear hc
        go_wp2_with fail
        refine cc.mono ?_
        rintro e w' ⟨rfl, rfl⟩
        clear cc
        go_wp2_with (at_builtin; refine wpList_append_own _ rfl _ _ 34 rfl w.heap.size 3 i0 (.int .i64 0) 1 8 Tryd.underlying34 hi hz0 hz1 hz2 rfl (by decide) _ _ _ rfl (ho.alloc _) ⟨wr.heap.size, 0, none⟩ 1 1 [.int .i64 ((k : Int) + 1)] rfl rfl (cell_one_new _ _ _) (fun x hx => by simp at hx; subst hx; rfl) (by unfold maxLen; omega) (by omega) (by have := hb.size; simp; omega) ?_; intro v' w3 hown' hgrow hnil)
        go_roundw
        case rel => exact ⟨k + 1, by omega, by go_num, sliceR (app_one hown') HA.out.symm, (hb.alloc hb.size _).grown hgrow (by have := hb.size; simp; omega) (fun q hq => by have := (ho.lt q hq).1; omega)⟩
        case measure => simp [intOf]; omega
      · have cc := clash_yes x ((k : Int) + 1) wr h0 h1 (by omega) (by omega)
        rw [hc] at cc
        have HA := Lib.hid (agL_out hc)
        clear hc
        go_wp2_with fail
        refine cc.mono ?_
        rintro e w' ⟨rfl, rfl⟩
        clear cc
        go_wp2_with fail
        go_roundw
        case rel => exact ⟨k + 1, by omega, by go_num, sliceR ho HA.out.symm, hb⟩
        case measure => simp [intOf]; omega
    · obtain ⟨a, cap, rfl, hO⟩ := ownI_append ho
      have HO := Lib.hid hO
      clear hO ho
      go_wp2_with fail
      go_ret2
      have e9 : k = 9 := by omega
      subst e9
      exact ⟨a, cap, rfl, HO.out, hb⟩
theorem against_impl_no (x : Int) (w : World) (h : x < 1 ∨ 9 < x) :
    Calls Tryd.prog 15 #[.int .i64 x] w (Ans w [] false) := by
  have c := isT_no x w h
  clear h
  go_enter Tryd.func15, Tryd.ntmps15
  go_wp2_with fail
  refine c.mono ?_
  rintro e w' ⟨rfl, rfl⟩
  go_wp2_with fail
  go_ret2
  exact ans_nil w false
end Go.Proofs.YtflfdngcgebmmaaDoor
