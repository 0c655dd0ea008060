/- Several small texts in one: Split. -/
import Derived.Test.YtgeidnnjljpdkaaDoorKP
import Derived.OwnWalk
import Derived.Laws.OwnMore
import Derived.Deep.AppendLies
import Derived.Maps.AppendAt
namespace Go.Proofs.YtgeidnnjljpdkaaDoor
open Go.RowKit

def encS (l : List UInt8) : Value := .string (strOf l)
theorem infoS : (Tryd.prog.info? 9).map (fun i => (i.zero, i.size, i.bytes)) = some (some (.string ByteArray.empty), 1, 16) := by kernel_rfl

/-- The result is a slice of the call's own that holds these texts, at least one; nothing that was there has changed. -/
def OwnStrs (w : World) (xs : List (List UInt8)) (v : Value) (w' : World) : Prop :=
  ∃ g cap, v = .slice (some ⟨g, 0, none⟩) xs.length cap ∧ w'.ownsRow w.heap.size 9 1 (.slice (some ⟨g, 0, none⟩) xs.length cap) xs.length (xs.map encS) ∧ Below w.heap.size w w'

theorem ownStrs_of {w w' : World} {v : Value} {n : Nat} {xs : List (List UInt8)} (h : w'.ownsRow w.heap.size 9 1 v n (xs.map encS)) (hn : n = xs.length) (h1 : 1 ≤ n) (hb : Below w.heap.size w w') : OwnStrs w xs v w' := by
  subst hn
  obtain ⟨g, cap, rfl, _, _⟩ := h.form h1
  exact ⟨g, cap, rfl, h, hb⟩

set_option maxHeartbeats 1000000 in
theorem l1Split_any (s : ByteArray) (c : UInt8) (w : World) (hs : s.size ≤ 1048576) :
    Calls Tryd.prog 88 #[.string s, .int .u8 (c.toNat : Int)] w fun e w' => ∃ v, e = .returned v ∧ OwnStrs w (splitL c s.data.toList) v w' := by
  obtain ⟨i0, hi, hz0, hz1, hz2⟩ := info_parts infoS
  go_enter Tryd.func88, Tryd.ntmps88
  go_wp2
  go_loopw [5, 6, 7] (fun v f i wr => ∃ (k a : Nat) (ps : List (List UInt8)), k ≤ s.size ∧ a ≤ k ∧ ps.length ≤ k ∧ i = .int .i64 k ∧ f = .int .i64 a ∧
      wr.ownsRow w.heap.size 9 1 v ps.length (ps.map encS) ∧ Below w.heap.size w wr ∧ Hid (SplitAt s c ps a k)) (fun _ _ i _ => s.size - (intOf i).toNat)
  case atStart =>
    exact ⟨0, 0, [], by omega, by omega, by simp, rfl, rfl, World.ownsRow_lit w #[] 0 (Nat.le_refl _) (by unfold maxLen; omega) rfl, (Below.refl _ _).alloc (Nat.le_refl _) _, splitAt_start s c⟩
  case round =>
    obtain ⟨k, a, ps, hk, ha, hps, rfl, rfl, hown, hbel, HS⟩ := hrel
    have hsz := hbel.size
    by_cases hlt : k < s.size
    · by_cases hc : s[k] = c
      · have e1 := byte_eq hc
        have HS1 : Hid (SplitAt s c (ps ++ [piece s a k]) (k + 1) (k + 1)) := splitAt_hit HS.out hlt hc
        have hx := extract_piece s a k
        clear hc HS
        go_wp2_with (at_builtin; refine wpList_append_own _ rfl _ _ 56 rfl w.heap.size 9 i0 (.string ByteArray.empty) 1 16 Tryd.underlying56 hi hz0 hz1 hz2 rfl (by decide) _ _ _ rfl (hown.alloc _) ⟨wr.heap.size, 0, none⟩ 1 1 [encS (piece s a k)] rfl rfl (cell_one_new _ _ _) (fun x hx => by simp at hx; subst hx; rfl) (by unfold maxLen; omega) (by omega) (by simp; omega) ?_; intro v' w1 hown' hgrow hnil)
        go_roundw
        case rel => exact ⟨k + 1, k + 1, ps ++ [piece s a k], by omega, by omega, by simp; omega, by go_num, by go_num, by simpa using hown', (hbel.alloc hbel.size _).grown hgrow (by simp; omega) (fun q hq => (hown.lt q hq).1), HS1⟩
        case measure => simp [intOf]; omega
      · have e1 := byte_ne hc
        have HS1 : Hid (SplitAt s c ps a (k + 1)) := splitAt_miss HS.out hlt ha hc
        clear hc HS
        go_wp2
        go_roundw
        case rel => exact ⟨k + 1, a, ps, by omega, by omega, by omega, by go_num, rfl, hown, hbel, HS1⟩
        case measure => simp [intOf]; omega
    · obtain rfl : k = s.size := by omega
      have hl : (splitL c s.data.toList).length = ps.length + 1 := by rw [← splitAt_end HS.out rfl]; simp
      have hx := extract_piece s a s.size
      go_wp2_with (at_builtin; refine wpList_append_own _ rfl _ _ 56 rfl w.heap.size 9 i0 (.string ByteArray.empty) 1 16 Tryd.underlying56 hi hz0 hz1 hz2 rfl (by decide) _ _ _ rfl (hown.alloc _) ⟨wr.heap.size, 0, none⟩ 1 1 [encS (piece s a s.size)] rfl rfl (cell_one_new _ _ _) (fun x hx => by simp at hx; subst hx; rfl) (by unfold maxLen; omega) (by omega) (by simp; omega) ?_; intro v' w1 hown' hgrow hnil)
      go_ret
      have hb1 : Below w.heap.size w w1 := (hbel.alloc hbel.size _).grown hgrow (by simp; omega) (fun q hq => (hown.lt q hq).1)
      exact ⟨v', rfl, ownStrs_of (n := ps.length + 1) (by rw [← splitAt_end HS.out rfl]; simpa using hown') (by omega) (by omega) hb1⟩
end Go.Proofs.YtgeidnnjljpdkaaDoor
