/- Contracts: IsPoorField of the program and of the model. -/
import Derived.Test.YtmmbhglmafnfpabDoorKD
import Derived.Test.YtmmbhglmafnfpabDoorKV
namespace Go.Proofs.YtmmbhglmafnfpabDoor
open Go.RowKit

/-- A field with a division whose two tinctures clash. -/
def poorB (d f s : Int) : Bool := (d != 0) && clashB f s
set_option maxHeartbeats 2000000 in
theorem poor_impl (d l f s : Int) (w : World) (h : FOk d l f s) :
    Calls Tryd.prog 18 #[.agg #[.int .i64 d, .int .i64 l, .int .i64 f, .int .i64 s]] w fun e w' => e = .returned (.tuple #[.bool (poorB d f s), .bool true]) ∧ Below w.heap.size w w' := by
  have CV := Lib.hid (fun W => validField_yes d l f s W h)
  obtain ⟨q, p, hp, cc⟩ : ∃ (q p : Bool), poorB d f s = p ∧ ∀ W, Calls Tryd.prog 51 #[.int .i64 f, .int .i64 s] W fun e w' => e = .returned (.tuple #[.bool p, .bool q]) ∧ W = w' := by
    rcases h.2.2.2 with h0 | h0
    · refine ⟨false, false, by simp [poorB, h0.1], fun W => clash_no2 f s W (by omega)⟩
    · refine ⟨true, clashB f s, by simp [poorB, h0.1], fun W => clash_yes f s W h.2.2.1.1 h.2.2.1.2 h0.2.1.1 h0.2.1.2⟩
  have CC := Lib.hid cc
  clear cc h
  rw [hp]
  clear hp
  have X0 := Lib.hid (Box.new w [.int .i64 d, .int .i64 l, .int .i64 f, .int .i64 s] 25)
  have B0 := Lib.hid ((Below.refl _ w).alloc (Nat.le_refl _) (.cells #[.int .i64 d, .int .i64 l, .int .i64 f, .int .i64 s] 25 (0, 0)))
  go_enter Tryd.func18, Tryd.ntmps18
  go_wp2_with fail
  refine (CV.out _).mono ?_
  rintro e w1 ⟨rfl, h1⟩
  have X1 := X0.out.below h1
  have c2 := X1.2 2 _ rfl
  have c3 := X1.2 3 _ rfl
  have B1 := Lib.hid (B0.out.trans (h1.mono B0.out.size))
  clear h1 X0 B0 X1
  go_wp2_with fail
  refine (CC.out _).mono ?_
  rintro e w2 ⟨rfl, rfl⟩
  go_wp2_with fail
  go_ret2
  exact ⟨rfl, B1.out⟩
set_option maxHeartbeats 2000000 in
theorem poor_impl_no (d l f s : Int) (w : World) (h : ¬ FOk d l f s) :
    Calls Tryd.prog 18 #[.agg #[.int .i64 d, .int .i64 l, .int .i64 f, .int .i64 s]] w fun e w' => e = .returned (.tuple #[.bool false, .bool false]) ∧ Below w.heap.size w w' := by
  have CV := Lib.hid (fun W => validField_no d l f s W h)
  clear h
  have B0 := Lib.hid ((Below.refl _ w).alloc (Nat.le_refl _) (.cells #[.int .i64 d, .int .i64 l, .int .i64 f, .int .i64 s] 25 (0, 0)))
  go_enter Tryd.func18, Tryd.ntmps18
  go_wp2_with fail
  refine (CV.out _).mono ?_
  rintro e w1 ⟨rfl, h1⟩
  have B1 := Lib.hid (B0.out.trans (h1.mono B0.out.size))
  clear h1 B0
  go_wp2_with fail
  go_ret2
  exact ⟨rfl, B1.out⟩
set_option maxHeartbeats 2000000 in
theorem poor_spec (d l f s : Int) (w : World) (h : FOk d l f s) :
    Calls Tryd.prog 19 #[.agg #[.int .i64 d, .int .i64 l, .int .i64 f, .int .i64 s]] w fun e w' => e = .returned (.tuple #[.bool (poorB d f s), .bool true]) ∧ Below w.heap.size w w' := by
  have CV := Lib.hid (fun W => l3Good_yes d l f s W h)
  have CC := Lib.hid (fun W => l2Clash_any f s W)
  clear h
  have X0 := Lib.hid (Box.new w [.int .i64 d, .int .i64 l, .int .i64 f, .int .i64 s] 25)
  have B0 := Lib.hid ((Below.refl _ w).alloc (Nat.le_refl _) (.cells #[.int .i64 d, .int .i64 l, .int .i64 f, .int .i64 s] 25 (0, 0)))
  unfold poorB
  obtain ⟨p, hp⟩ : ∃ p, (d != 0) = p := ⟨_, rfl⟩
  rw [hp]
  cases p
  all_goals
    go_enter Tryd.func19, Tryd.ntmps19
    go_wp2_with fail
    refine (CV.out _).mono ?_
    rintro e w1 ⟨rfl, h1⟩
    have X1 := X0.out.below h1
    have c0 := X1.2 0 _ rfl
    have c2 := X1.2 2 _ rfl
    have c3 := X1.2 3 _ rfl
    have B1 := Lib.hid (B0.out.trans (h1.mono B0.out.size))
    clear h1 X0 B0 X1
    go_wp2_with fail
    try (refine (CC.out _).mono ?_; rintro e w2 ⟨rfl, rfl⟩; go_wp2_with fail)
    go_ret2
    exact ⟨by simp, B1.out⟩
set_option maxHeartbeats 2000000 in
theorem poor_spec_no (d l f s : Int) (w : World) (h : ¬ FOk d l f s) :
    Calls Tryd.prog 19 #[.agg #[.int .i64 d, .int .i64 l, .int .i64 f, .int .i64 s]] w fun e w' => e = .returned (.tuple #[.bool false, .bool false]) ∧ Below w.heap.size w w' := by
  have CV := Lib.hid (fun W => l3Good_no d l f s W h)
  clear h
  have B0 := Lib.hid ((Below.refl _ w).alloc (Nat.le_refl _) (.cells #[.int .i64 d, .int .i64 l, .int .i64 f, .int .i64 s] 25 (0, 0)))
  go_enter Tryd.func19, Tryd.ntmps19
  go_wp2_with fail
  refine (CV.out _).mono ?_
  rintro e w1 ⟨rfl, h1⟩
  have B1 := Lib.hid (B0.out.trans (h1.mono B0.out.size))
  clear h1 B0
  go_wp2_with fail
  go_ret2
  exact ⟨rfl, B1.out⟩
end Go.Proofs.YtmmbhglmafnfpabDoor
