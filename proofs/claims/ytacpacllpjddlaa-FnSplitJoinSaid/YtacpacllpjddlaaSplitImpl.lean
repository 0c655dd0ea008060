/- Contracts: the program's piecesOf, its iterator, and SplitString, at every two strings. -/
import Derived.RangeFuncBox
import Derived.RangeFuncLeaves
import Derived.Shelf.Abstract
import Derived.WalkKit
import Derived.OwnWalkIn
import Derived.TacticsInMore
import Derived.LoopNIn
import Derived.LoopIn
import Derived.Maps.AppendAt
import Derived.Test.YtacpacllpjddlaaSplit
namespace Go.Proofs.Ytacpacllpjddlaa
open Go.RowKit Go.Shelf
attribute [local go_sem] Oper.semAt_some

/-- What a round must keep: the two boxes that the iterator reads. -/
def KeepTwo (B1 B2 : Nat) (W W' : World) : Prop := W'.heap[B1]? = W.heap[B1]? ∧ W'.heap[B2]? = W.heap[B2]?
theorem KeepTwo.cells {B1 B2 : Nat} {W W' : World} (h : KeepTwo B1 B2 W W') : W'.cell? ⟨B1, 0, none⟩ = W.cell? ⟨B1, 0, none⟩ ∧ W'.cell? ⟨B2, 0, none⟩ = W.cell? ⟨B2, 0, none⟩ :=
  ⟨World.cell?_of_block h.1, World.cell?_of_block h.2⟩

theorem piecesOf_in (F : Fence) (n : Nat) (hf : F.fn 27) (hro : F.round = none) (s : ByteArray) (c : Int) (w : World) :
    CallsIn F n Try.prog 27 #[.string s, .int .u8 c] w fun e w' => e = .returned (.func (.func 36) #[] #[.pointer (some ⟨w.heap.size, 0, none⟩), .pointer (some ⟨w.heap.size + 1, 0, none⟩)]) ∧
      w' = (w.alloc (.cells #[.string s] 9)).alloc (.cells #[.int .u8 c] 5) := by
  refine callsIn_of_wp Try.func27 rfl hf ?_ hro
  simp only [Try.ntmps27, List.size_toArray, List.length_cons, List.length_nil, Nat.reduceAdd, Nat.reduceSub, Array.replicate_succ, Array.replicate_zero, List.push_toArray, List.append_toArray, List.nil_append, List.cons_append]
  gi_wp2
  go_ret
  exact ⟨rfl, rfl⟩

theorem splitAt_lt {s : ByteArray} {c : UInt8} {ps : List (List UInt8)} {a k : Nat} (h : SplitAt s c ps a k) : ps.length < (splitL c s.data.toList).length := by
  unfold SplitAt at h
  have h1 := splitAcc_ne c (s.data.toList.drop k) (piece s a k)
  rw [← h, List.length_append]
  cases hx : splitAcc c (piece s a k) (s.data.toList.drop k) with
  | nil => exact absurd hx h1
  | cons x r => simp

set_option maxRecDepth 100000 in
set_option maxHeartbeats 2000000 in
theorem iter_in (F : Fence) (n : Nat) (hf : F.fn 36) (hro : F.round = none) (hn : 1 ≤ n) (l B1 B2 : Nat) (s : ByteArray) (c : UInt8) (hs : s.size ≤ 1048576) (J Jx : List (List UInt8) → World → Prop)
    (hJ : ∀ pre W W', J pre W → W.grownBy W' none → J pre W')
    (hY : ∀ pre x W, J pre W → pre.length < (splitL c s.data.toList).length → YieldAt F (n - 1) Try.prog l #[encS x] W fun e W' =>
      (e = .returned (.bool true) ∧ J (pre ++ [x]) W' ∧ KeepTwo B1 B2 W W') ∨ (e = .returned (.bool false) ∧ Jx (pre ++ [x]) W'))
    (W : World) (h1 : W.cell? ⟨B1, 0, none⟩ = some (.string s)) (h2 : W.cell? ⟨B2, 0, none⟩ = some (.int .u8 (c.toNat : Int))) (h0 : J [] W) :
    CallsIn F n Try.prog 36 #[.func (.yield l) #[] #[], .pointer (some ⟨B1, 0, none⟩), .pointer (some ⟨B2, 0, none⟩)] W fun e W' => (∃ v, e = .returned v) ∧
      ((∃ ys, ys = splitL c s.data.toList ∧ J ys W') ∨ (∃ pre, True ∧ Jx pre W')) := by
  refine callsIn_of_wp Try.func36 rfl hf ?_ hro
  simp only [Try.ntmps36, List.size_toArray, List.length_cons, List.length_nil, Nat.reduceAdd, Nat.reduceSub, Array.replicate_succ, Array.replicate_zero, List.push_toArray, List.append_toArray, List.nil_append, List.cons_append]
  gi_wp2
  gi_loopw [4, 8] (fun st i wr => ∃ (k a : Nat) (pre : List (List UInt8)), k ≤ s.size ∧ a ≤ k ∧ i = .int .i64 k ∧ st = .int .i64 a ∧ J pre wr ∧ Hid (SplitAt s c pre a k) ∧
      wr.cell? ⟨B1, 0, none⟩ = some (.string s) ∧ wr.cell? ⟨B2, 0, none⟩ = some (.int .u8 (c.toNat : Int))) (fun _ i _ => s.size - (intOf i).toNat)
  case atStart => exact ⟨0, 0, [], by omega, by omega, rfl, rfl, h0, splitAt_start s c, h1, h2⟩
  case round =>
    obtain ⟨k, a, pre, hk, ha, rfl, rfl, hJs, HS, g1, g2⟩ := hrel
    by_cases hlt : k < s.size
    · by_cases hc : s[k] = c
      · have e1 := byte_eq hc
        have e2 : ((s[k].toNat : Int) != (c.toNat : Int)) = false := by rw [bne, e1]; rfl
        have HS1 := Lib.hid (splitAt_hit HS.out hlt hc)
        have hx := extract_piece s a k
        have hlen := splitAt_lt HS.out
        have hJd : J pre wr.drew := hJ _ _ _ hJs ⟨rfl, rfl, rfl, Nat.le_refl _, fun _ _ _ => rfl⟩
        clear hc
        gi_wp2
        gi_region
        all_goals
          obtain ⟨fn, tmps, assign, body, hy, hR⟩ := hY pre (piece s a k) wr.drew hJd hlen
          unfold encS at hy
          gi_wp2
          refine hR.mono ?_
          rintro e W3 (⟨rfl, hJ3, hk3⟩ | ⟨rfl, hJx3⟩)
          · have q1 : W3.cell? ⟨B1, 0, none⟩ = some (.string s) := hk3.cells.1.trans g1
            have q2 : W3.cell? ⟨B2, 0, none⟩ = some (.int .u8 (c.toNat : Int)) := hk3.cells.2.trans g2
            gi_wp2
            go_roundw
            case rel => exact ⟨k + 1, k + 1, pre ++ [piece s a k], by omega, by omega, by go_num, by go_num, hJ3, HS1, q1, q2⟩
            case measure => simp [intOf]; omega
          · gi_wp2
            refine bodyPost_ret (results_none rfl _ _ _) rfl ?_
            exact ⟨⟨_, rfl⟩, .inr ⟨_, trivial, hJx3⟩⟩
      · have e1 := byte_ne hc
        have e2 : ((s[k].toNat : Int) != (c.toNat : Int)) = true := by rw [bne, e1]; rfl
        have HS1 := Lib.hid (splitAt_miss HS.out hlt ha hc)
        have hJd : J pre wr.drew := hJ _ _ _ hJs ⟨rfl, rfl, rfl, Nat.le_refl _, fun _ _ _ => rfl⟩
        clear hc
        gi_wp2
        gi_region
        all_goals
          gi_wp2
          go_roundw
          case rel => exact ⟨k + 1, a, pre, by omega, by omega, by go_num, rfl, hJd, HS1, g1, g2⟩
          case measure => simp [intOf]; omega
    · obtain rfl : k = s.size := by omega
      have hx := extract_piece s a s.size
      have hlen := splitAt_lt HS.out
      have HE := Lib.hid (splitAt_end HS.out rfl)
      obtain ⟨fn, tmps, assign, body, hy, hR⟩ := hY pre (piece s a s.size) wr hJs hlen
      unfold encS at hy
      gi_wp2
      refine hR.mono ?_
      rintro e W3 (⟨rfl, hJ3, hk3⟩ | ⟨rfl, hJx3⟩)
      · gi_wp2
        go_end0
        exact ⟨⟨_, rfl⟩, .inl ⟨_, HE.out, hJ3⟩⟩
      · gi_wp2
        go_end0
        exact ⟨⟨_, rfl⟩, .inr ⟨_, trivial, hJx3⟩⟩
end Go.Proofs.Ytacpacllpjddlaa
