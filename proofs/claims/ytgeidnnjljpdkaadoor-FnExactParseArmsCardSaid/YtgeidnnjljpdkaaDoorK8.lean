/- Several small texts in one: SplitIt. -/
import Derived.RangeFuncBox
import Derived.RangeFuncLeaves
import Derived.Shelf.Abstract
import Derived.WalkKit
import Derived.OwnWalkIn
import Derived.TacticsInMore
import Derived.LoopNIn
import Derived.LoopIn
import Derived.Maps.AppendAt
import Derived.Test.YtgeidnnjljpdkaaDoorKP
namespace Go.Proofs.YtgeidnnjljpdkaaDoor
open Go.RowKit Go.Shelf
attribute [local go_sem] Oper.semAt_some

/-- What a round must keep: the two boxes that the iterator reads. -/
def KeepTwo (B1 B2 : Nat) (W W' : World) : Prop := W'.heap[B1]? = W.heap[B1]? ∧ W'.heap[B2]? = W.heap[B2]?
theorem KeepTwo.cells {B1 B2 : Nat} {W W' : World} (h : KeepTwo B1 B2 W W') : W'.cell? ⟨B1, 0, none⟩ = W.cell? ⟨B1, 0, none⟩ ∧ W'.cell? ⟨B2, 0, none⟩ = W.cell? ⟨B2, 0, none⟩ :=
  ⟨World.cell?_of_block h.1, World.cell?_of_block h.2⟩

theorem piecesOf_in (F : Fence) (n : Nat) (hf : F.fn 117) (hro : F.round = none) (s : ByteArray) (c : Int) (w : World) :
    CallsIn F n Tryd.prog 117 #[.string s, .int .u8 c] w fun e w' => e = .returned (.func (.func 143) #[] #[.pointer (some ⟨w.heap.size, 0, none⟩), .pointer (some ⟨w.heap.size + 1, 0, none⟩)]) ∧
      w' = (w.alloc (.cells #[.string s] 9)).alloc (.cells #[.int .u8 c] 5) := by
  refine callsIn_of_wp Tryd.func117 rfl hf ?_ hro
  simp only [Tryd.ntmps117, List.size_toArray, List.length_cons, List.length_nil, Nat.reduceAdd, Nat.reduceSub, Array.replicate_succ, Array.replicate_zero, List.push_toArray, List.append_toArray, List.nil_append, List.cons_append]
  gi_wp2
  go_ret
  exact ⟨rfl, rfl⟩

/-- A string that is not too long. -/
abbrev BStr := { x : ByteArray // x.size ≤ 1048576 }
def encB (x : BStr) : Value := .string x.1
def bytesB (x : BStr) : List UInt8 := x.1.data.toList
theorem piece_len (s : ByteArray) (a k : Nat) : (piece s a k).length ≤ s.size := by
  unfold piece
  rw [List.length_drop, List.length_take]
  have : s.data.toList.length = s.size := by simp
  omega
def pieceB (s : ByteArray) (hs : s.size ≤ 1048576) (a k : Nat) : BStr := ⟨strOf (piece s a k), Nat.le_trans (piece_len s a k) hs⟩
theorem map_snoc (s : ByteArray) (hs : s.size ≤ 1048576) (a k : Nat) (pre : List BStr) : (pre ++ [pieceB s hs a k]).map bytesB = pre.map bytesB ++ [piece s a k] := by
  rw [List.map_append]; rfl
def Begins (s : ByteArray) (c : UInt8) (pre : List BStr) : Prop := ∃ r, pre.map bytesB ++ r = splitL c s.data.toList
theorem splitAt_lt {s : ByteArray} {c : UInt8} {ps : List (List UInt8)} {a k : Nat} (h : SplitAt s c ps a k) : ps.length < (splitL c s.data.toList).length := by
  unfold SplitAt at h
  have h1 := splitAcc_ne c (s.data.toList.drop k) (piece s a k)
  rw [← h, List.length_append]
  cases hx : splitAcc c (piece s a k) (s.data.toList.drop k) with
  | nil => exact absurd hx h1
  | cons x r => simp

set_option maxRecDepth 100000 in
set_option maxHeartbeats 2000000 in
theorem iter_in (F : Fence) (n : Nat) (hf : F.fn 143) (hro : F.round = none) (hn : 1 ≤ n) (l B1 B2 : Nat) (s : ByteArray) (c : UInt8) (hs : s.size ≤ 1048576) (J Jx : List BStr → World → Prop)
    (hJ : ∀ pre W W', J pre W → W.grownBy W' none → J pre W')
    (hY : ∀ pre x W, J pre W → pre.length < (splitL c s.data.toList).length → YieldAt F (n - 1) Tryd.prog l #[encB x] W fun e W' =>
      (e = .returned (.bool true) ∧ J (pre ++ [x]) W' ∧ KeepTwo B1 B2 W W') ∨ (e = .returned (.bool false) ∧ Jx (pre ++ [x]) W'))
    (W : World) (h1 : W.cell? ⟨B1, 0, none⟩ = some (.string s)) (h2 : W.cell? ⟨B2, 0, none⟩ = some (.int .u8 (c.toNat : Int))) (h0 : J [] W) :
    CallsIn F n Tryd.prog 143 #[.func (.yield l) #[] #[], .pointer (some ⟨B1, 0, none⟩), .pointer (some ⟨B2, 0, none⟩)] W fun e W' => (∃ v, e = .returned v) ∧
      ((∃ ys : List BStr, ys.map bytesB = splitL c s.data.toList ∧ J ys W') ∨ (∃ pre, Begins s c pre ∧ Jx pre W')) := by
  refine callsIn_of_wp Tryd.func143 rfl hf ?_ hro
  simp only [Tryd.ntmps143, List.size_toArray, List.length_cons, List.length_nil, Nat.reduceAdd, Nat.reduceSub, Array.replicate_succ, Array.replicate_zero, List.push_toArray, List.append_toArray, List.nil_append, List.cons_append]
  gi_wp2
  gi_loopw [4, 8] (fun st i wr => ∃ (k a : Nat) (pre : List BStr), k ≤ s.size ∧ a ≤ k ∧ i = .int .i64 k ∧ st = .int .i64 a ∧ J pre wr ∧ Hid (SplitAt s c (pre.map bytesB) a k) ∧
      wr.cell? ⟨B1, 0, none⟩ = some (.string s) ∧ wr.cell? ⟨B2, 0, none⟩ = some (.int .u8 (c.toNat : Int))) (fun _ i _ => s.size - (intOf i).toNat)
  case atStart => exact ⟨0, 0, [], by omega, by omega, rfl, rfl, h0, splitAt_start s c, h1, h2⟩
  case round =>
    obtain ⟨k, a, pre, hk, ha, rfl, rfl, hJs, HS, g1, g2⟩ := hrel
    by_cases hlt : k < s.size
    · by_cases hc : s[k] = c
      · have e1 := byte_eq hc
        have e2 : ((s[k].toNat : Int) != (c.toNat : Int)) = false := by rw [bne, e1]; rfl
        have HS1 : Hid (SplitAt s c ((pre ++ [pieceB s hs a k]).map bytesB) (k + 1) (k + 1)) := Lib.hid (by rw [map_snoc]; exact splitAt_hit HS.out hlt hc)
        have hx := extract_piece s a k
        have hlen : pre.length < (splitL c s.data.toList).length := by have := splitAt_lt HS.out; rwa [List.length_map] at this
        have hJd : J pre wr.drew := hJ _ _ _ hJs ⟨rfl, rfl, rfl, Nat.le_refl _, fun _ _ _ => rfl⟩
        clear hc
        gi_wp2
        gi_region
        all_goals
          obtain ⟨fn, tmps, assign, body, hy, hR⟩ := hY pre (pieceB s hs a k) wr.drew hJd hlen
          dsimp only [encB, pieceB] at hy
          gi_wp2
          refine hR.mono ?_
          rintro e W3 (⟨rfl, hJ3, hk3⟩ | ⟨rfl, hJx3⟩)
          · have q1 : W3.cell? ⟨B1, 0, none⟩ = some (.string s) := hk3.cells.1.trans g1
            have q2 : W3.cell? ⟨B2, 0, none⟩ = some (.int .u8 (c.toNat : Int)) := hk3.cells.2.trans g2
            gi_wp2
            go_roundw
            case rel => exact ⟨k + 1, k + 1, pre ++ [pieceB s hs a k], by omega, by omega, by go_num, by go_num, hJ3, HS1, q1, q2⟩
            case measure => simp [intOf]; omega
          · gi_wp2
            refine bodyPost_ret (results_none rfl _ _ _) rfl ?_
            exact ⟨⟨_, rfl⟩, .inr ⟨_, ⟨_, HS1.out⟩, hJx3⟩⟩
      · have e1 := byte_ne hc
        have e2 : ((s[k].toNat : Int) != (c.toNat : Int)) = true := by rw [bne, e1]; rfl
        have HS1 := Lib.hid (splitAt_miss HS.out hlt ha hc)
        have hJd : J pre wr.drew := hJ _ _ _ hJs ⟨rfl, rfl, rfl, Nat.le_refl _, fun _ _ _ => rfl⟩
        clear hc
        gi_wp2
        gi_region
        all_goals
          gi_wp2
          go_roundw
          case rel => exact ⟨k + 1, a, pre, by omega, by omega, by go_num, rfl, hJd, HS1, g1, g2⟩
          case measure => simp [intOf]; omega
    · obtain rfl : k = s.size := by omega
      have hx := extract_piece s a s.size
      have hlen : pre.length < (splitL c s.data.toList).length := by have := splitAt_lt HS.out; rwa [List.length_map] at this
      have HE : Hid ((pre ++ [pieceB s hs a s.size]).map bytesB = splitL c s.data.toList) := Lib.hid (by rw [map_snoc]; exact splitAt_end HS.out rfl)
      obtain ⟨fn, tmps, assign, body, hy, hR⟩ := hY pre (pieceB s hs a s.size) wr hJs hlen
      dsimp only [encB, pieceB] at hy
      gi_wp2
      refine hR.mono ?_
      rintro e W3 (⟨rfl, hJ3, hk3⟩ | ⟨rfl, hJx3⟩)
      · gi_wp2
        go_end0
        exact ⟨⟨_, rfl⟩, .inl ⟨_, HE.out, hJ3⟩⟩
      · gi_wp2
        go_end0
        exact ⟨⟨_, rfl⟩, .inr ⟨_, ⟨[], by rw [List.append_nil]; exact HE.out⟩, hJx3⟩⟩
end Go.Proofs.YtgeidnnjljpdkaaDoor
