/- Contract: the laws' markText, at every number from 1 to 10^9. -/
import Derived.Test.YtklfkdmmclomoaaDoorBase
import Derived.Test.YtklfkdmmclomoaaDoorProg
import Derived.WalkLawsBesides
import Derived.IntWalk
import Derived.Deep.LoopGhost
import Derived.Laws.BytesArg
import Derived.Maps.AppendAt
namespace Go.Proofs.YtklfkdmmclomoaaDoor
open Go.RowKit

/-- The decimal digits of a number, none for 0. -/
def digs (u : Nat) : List UInt8 := if _h : u = 0 then [] else digs (u / 10) ++ [UInt8.ofNat (48 + u % 10)]
termination_by u
decreasing_by omega
theorem digs_zero : digs 0 = [] := by rw [digs, dif_pos rfl]
theorem digs_pos {u : Nat} (h : 0 < u) : digs u = digs (u / 10) ++ [UInt8.ofNat (48 + u % 10)] := by rw [digs, dif_neg (by omega)]
def mtext (u : Nat) : ByteArray := strOf (109 :: digs u)
def bstr (d : Int) : ByteArray := ⟨#[UInt8.ofNat d.toNat]⟩

theorem size_bstr (d : Int) : (bstr d).size = 1 := rfl
theorem conv_one (d : Int) (_h0 : 0 ≤ d) (_h1 : d < 256) (w : World) :
    (convert (22 : Nat) (9 : Nat) (.slice (some ⟨w.heap.size, 0, none⟩) 1 1)).run Tryd.prog (w.alloc (.cells #[.int .u8 d] (5 : Nat))) = .ok (.string (bstr d)) (w.alloc (.cells #[.int .u8 d] (5 : Nat))) :=
  run_convert_bytes_arg (P := Tryd.prog) (w.alloc (.cells #[.int .u8 d] 5)) 22 5 Tryd.underlying22 Tryd.underlying5 w.heap.size 0 1 1 [d] rfl (fun i hi => by
    obtain rfl : i = 0 := by omega
    exact cell_one_new w (.int .u8 d) 5 0 _ rfl) 9 Tryd.underlying9
theorem step_digs {j : Nat} {l : List UInt8} (_h : 0 < j) : bstr (48 + (j : Int) % 10) ++ strOf l = strOf (UInt8.ofNat (48 + j % 10) :: l) := by
  have e : (48 + (j : Int) % 10).toNat = 48 + j % 10 := by omega
  unfold bstr
  rw [e]
  exact ByteArray.mk_append_mk [UInt8.ofNat (48 + j % 10)] l

set_option maxRecDepth 100000 in
set_option maxHeartbeats 1000000 in
theorem markText_any (K : Nat) (w : World) (h0 : 1 ≤ K) (h1 : K ≤ 1000000000) :
    Calls Tryd.prog 74 #[.int .i64 (K : Int)] w fun e w' => e = .returned (.string (mtext K)) ∧ Below w.heap.size w w' := by
  have hk0 : decide (K = 0) = false := by simp; omega
  go_enter Tryd.func74, Tryd.ntmps74
  go_wp2
  go_loopg [0, 3] K (fun g k t wr => ∃ (j : Nat) (l : List UInt8), j ≤ K ∧ j ≤ g ∧ l.length + j ≤ 1000000020 ∧ k = .int .i64 j ∧ t = .string (strOf l) ∧ Hid (digs j ++ l = digs K) ∧ Below w.heap.size w wr)
  case atStart => exact ⟨K, [], by omega, by omega, by simp; omega, rfl, rfl, by show _ = _; simp, Below.refl _ _⟩
  case round =>
    obtain ⟨j, l, hj, hjg, hl, rfl, rfl, HD, hb⟩ := hrel
    by_cases hlt : 0 < j
    · go_wp2
      have hc := fun wx : World => conv_one (48 + (j : Int) % 10) (by omega) (by omega) wx
      have hz : (strOf l).size ≤ 1000000020 := by rw [size_strOf]; omega
      have hz1 : (bstr (48 + (j : Int) % 10)).size ≤ 1 := by rw [size_bstr]; omega
      have HD1 : Hid (digs (j / 10) ++ (UInt8.ofNat (48 + j % 10) :: l) = digs K) := by
        show _ = _
        rw [← HD.out, digs_pos hlt]; simp
      have HX := Lib.hid (step_digs (l := l) hlt)
      obtain ⟨g, rfl⟩ : ∃ g, gk = g + 1 := ⟨gk - 1, by omega⟩
      go_wp2_with fail
      simp only [hc]
      go_wp2
      go_roundg g
      case measure => omega
      case rel => exact ⟨j / 10, UInt8.ofNat (48 + j % 10) :: l, by omega, by omega, by simp; omega, by go_num, by rw [← HX.out], HD1, hb.alloc hb.size _⟩
    · obtain rfl : j = 0 := by omega
      have hz : (strOf l).size ≤ 1000000020 := by rw [size_strOf]; omega
      have HX : Hid (({ data := #[109] } : ByteArray) ++ strOf l = mtext K) := by
        have h := HD.out
        rw [digs_zero, List.nil_append] at h
        show _ = _
        rw [mtext, ← h]
        exact ByteArray.mk_append_mk [109] l
      go_wp2
      go_ret
      exact ⟨ret_str HX.out, hb⟩
end Go.Proofs.YtklfkdmmclomoaaDoor
