/- Contracts: the program's numbers of the words of counts and of kinds. -/
import Derived.Test.YtklfkdmmclomoaaDoorGRun
import Derived.Test.YtklfkdmmclomoaaDoorG4Words
import Derived.Test.YtklfkdmmclomoaaDoorShelf
import Derived.IntWalk
import Derived.Deep.QuietTactic
import Derived.BigQuiet
namespace Go.Proofs.YtklfkdmmclomoaaDoor
open Go.RowKit

set_option maxHeartbeats 1000000 in
theorem countOfWord_impl (x : ByteArray) (w : World) (hC : CountsLie w) :
    Calls Tryd.prog 49 #[.string x] w fun e w' => e = .returned (.int .i64 (countW x : Int)) ∧ w = w' := by
  have el : (⟨#[97, 110]⟩ : ByteArray).toList = [97, 110] := by rw [ByteArray.toList_eq]
  by_cases h : x = ⟨#[97, 110]⟩
  · have e1 : (x.toList == [97, 110]) = true := by rw [← el]; exact (Lib.bytes_beq_iff _ _).2 h
    have e2 : countW x = 1 := by unfold countW; rw [if_pos h]
    rw [e2]
    clear h hC el
    go_enter Tryd.func49, Tryd.ntmps49
    go_wp2_with fail
    go_ret
    exact ⟨rfl, rfl⟩
  · have e1 : (x.toList == [97, 110]) = false := by rw [← el]; exact (Lib.bytes_beq_false_iff _ _).2 h
    have hv := countW_idx h
    have hle := countW_le x
    have ci := fun c => Tryd.slices_Index_string 4 0 6 c countL x w (by decide) (by decide) (fun j hj => by rw [Nat.zero_add]; exact hC j hj)
    rw [show countL.take 6 = countL from rfl] at ci
    obtain ⟨z, hz⟩ : ∃ z, Lib.idxOfS countL x = z := ⟨_, rfl⟩
    rw [hz] at ci hv
    have hw : IntKind.i64.wrap (1 + z) = (countW x : Int) := by rw [IntWalk.i64_in _ (by omega)]; exact hv
    have CI := Lib.hid ci
    clear h hC ci hz el
    go_enter Tryd.func49, Tryd.ntmps49
    go_wp2_with fail
    refine (CI.out _).mono ?_
    rintro e w' ⟨rfl, rfl⟩
    go_wp2_with fail
    go_ret
    exact ⟨by first | rfl | (rw [hw]) | (rw [hv]), rfl⟩
set_option maxHeartbeats 1000000 in
theorem kindOfWord_impl (x : ByteArray) (hs : x.size ≤ 1048576) (w : World) (hK : KindsLie w) :
    Calls Tryd.prog 50 #[.string x] w fun e w' => e = .returned (.int .i64 (kindW x : Int)) ∧ Below w.heap.size w w' := by
  have hv := kindW_idx x
  have hle := kindW_le x
  have ct := fun W => Tryd.strings_TrimSuffix x ⟨#[115]⟩ W (by omega)
  have ci := fun W (hb : Below w.heap.size w W) c => Tryd.slices_Index_string 3 0 8 c kindL (stem x) W (by decide) (by decide) (fun j hj => by rw [Nat.zero_add]; exact (hK.below hb) j hj)
  rw [show kindL.take 8 = kindL from rfl] at ci
  obtain ⟨z, hz⟩ : ∃ z, Lib.idxOfS kindL (stem x) = z := ⟨_, rfl⟩
  obtain ⟨y, hy⟩ : ∃ y, stem x = y := ⟨_, rfl⟩
  rw [hz] at ci hv
  rw [hy] at ci
  have ct' : ∀ W, Calls Tryd.prog 81 #[.string x, .string ⟨#[115]⟩] W fun e w' => e = .returned (.string y) ∧ w' = W := fun W => hy ▸ ct W
  have hw : IntKind.i64.wrap (1 + z) = (kindW x : Int) := by rw [IntWalk.i64_in _ (by omega)]; exact hv
  have CT := Lib.hid ct'
  have CI := Lib.hid ci
  clear ct ci hz hy ct' hK
  go_enter Tryd.func50, Tryd.ntmps50
  go_wp2_with fail
  go_quiet (first | (go_at_call 81; refine Calls.quiet_of_same (CT.out _)) | (go_at_call 51; refine Calls.quiet_of_same (CI.out _ (below_drewN' (Below.refl _ _) _) _)))
  go_wp2_with fail
  go_ret
  exact ⟨by first | rfl | (rw [hw]) | (rw [hv]), below_drewN' (Below.refl _ _) _⟩
end Go.Proofs.YtklfkdmmclomoaaDoor
