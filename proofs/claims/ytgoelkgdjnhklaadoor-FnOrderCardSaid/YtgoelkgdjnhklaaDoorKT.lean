/- Several small texts in one: GText3, GUnbare. -/
import Derived.Test.YtgoelkgdjnhklaaDoorK4
import Derived.Test.YtgoelkgdjnhklaaDoorKD
namespace Go.Proofs.YtgoelkgdjnhklaaDoor
open Go.RowKit

theorem l4Bare_any (c k a t : Int) (w : World) (h : gOkB c k a t = true ∨ (gOkB c k a 1 = true)) :
    Calls Tryd.prog 158 #[.agg #[.int .i64 c, .int .i64 k, .int .i64 a, .int .i64 t]] w fun e w' => e = .returned (.string (bareN c.toNat k.toNat a.toNat)) ∧ Below w.heap.size w w' := by
  have h1 : (1 ≤ c ∧ c ≤ 6) ∧ (1 ≤ k ∧ k ≤ 8) ∧ ((k ≤ 3 ∧ 1 ≤ a ∧ a ≤ 2) ∨ (3 < k ∧ a = 0)) := by
    rcases h with h | h
    · have := gOk_out h; exact ⟨this.1, this.2.1, this.2.2.2⟩
    · have := gOk_out h; exact ⟨this.1, this.2.1, this.2.2.2⟩
  obtain ⟨hc, hk, hka⟩ := h1
  obtain ⟨kk, rfl⟩ : ∃ kk : Nat, k = (kk : Int) := ⟨k.toNat, by omega⟩
  rw [show (kk : Int).toNat = kk by omega]
  rcases hka with ⟨h3, ha⟩ | ⟨h3, rfl⟩
  · obtain ⟨n, rfl⟩ : ∃ n : Nat, c = (n : Int) + 1 := ⟨(c - 1).toNat, by omega⟩
    obtain ⟨m, rfl⟩ : ∃ m : Nat, a = (m : Int) + 1 := ⟨(a - 1).toNat, by omega⟩
    rw [show ((n : Int) + 1).toNat = n + 1 by omega, show ((m : Int) + 1).toNat = m + 1 by omega]
    exact l4Bare_beast n kk m t w (by omega) (by omega) (by omega) (by omega)
  · obtain ⟨cc, rfl⟩ : ∃ cc : Nat, c = (cc : Int) := ⟨c.toNat, by omega⟩
    rw [show (cc : Int).toNat = cc by omega]
    exact l4Bare_plain cc kk t w (by omega) (by omega) (by omega) (by omega)
set_option maxHeartbeats 4000000 in
theorem l4Text_any (c k a : Int) (i : Nat) (w : World) (hi : i < 9) (h : gOkB c k a ((i : Int) + 1) = true) :
    Calls Tryd.prog 127 #[.agg #[.int .i64 c, .int .i64 k, .int .i64 a, .int .i64 ((i : Int) + 1)]] w fun e w' => e = .returned (.string (gtextN c.toNat k.toNat a.toNat i)) ∧ Below w.heap.size w w' := by
  have ca := fun W => l4Bare_any c k a ((i : Int) + 1) W (.inl h)
  have cb := fun W => l2Word_any i W hi
  have s1 : (bareN c.toNat k.toNat a.toNat).size ≤ 22 := by
    have := gOk_out h
    exact bareN_size (by omega) (by omega) (by omega) (by omega) (by omega) (by omega)
  have s2 := wordN_size hi
  unfold gtextN
  generalize bareN c.toNat k.toNat a.toNat = tB at *
  generalize wordN i = tI at *
  have keep : ∀ (W w1 : World), Below W.heap.size W w1 → W.cell? ⟨w.heap.size, 3, none⟩ = some (.int .i64 ((i : Int) + 1)) ∧ Below w.heap.size w W → w1.cell? ⟨w.heap.size, 3, none⟩ = some (.int .i64 ((i : Int) + 1)) ∧ Below w.heap.size w w1 := fun W w1 hb h =>
    ⟨(hb.cell (p := ⟨w.heap.size, 3, none⟩) (World.block_lt_of_cell? W _ h.1)).trans h.1, h.2.trans (hb.mono h.2.size)⟩
  have CA := Lib.hid (fun W h => (ca W).mono (fun e w' (hh : e = Ending.returned (.string tB) ∧ Below W.heap.size W w') => (⟨hh.1, keep W w' hh.2 h⟩ : e = Ending.returned (.string tB) ∧ _)))
  have CB := Lib.hid (fun W h => (cb W).mono (fun e w' (hh : e = Ending.returned (.string tI) ∧ Below W.heap.size W w') => (⟨hh.1, keep W w' hh.2 h⟩ : e = Ending.returned (.string tI) ∧ _)))
  clear ca cb keep h
  have n1 : ¬ 9223372036854775807 < tB.size + 1 := by omega
  have n2 : ¬ 9223372036854775807 < tB.size + 1 + tI.size := by omega
  have gB := ((Below.refl w.heap.size w).alloc (Nat.le_refl _) (.cells #[.int .i64 c, .int .i64 k, .int .i64 a, .int .i64 ((i : Int) + 1)] 35 (0, 0))).drew
  go_enter Tryd.func127, Tryd.ntmps127
  go_wp2_with fail
  go_region_with (first
    | (go_at_call 158; (refine (CA.out ((w.alloc (.cells #[.int .i64 c, .int .i64 k, .int .i64 a, .int .i64 ((i : Int) + 1)] 35 (0, 0))).drew) ⟨by show (w.alloc _).cell? _ = _; simp, gB⟩).mono ?_); rintro e w1 ⟨rfl, h3, hb⟩)
    | (go_at_call 85; (refine (CB.out _ ⟨h3, hb⟩).mono ?_); rintro e w2 ⟨rfl, k3, kb⟩))
  all_goals
    clear CA CB
    go_wp2_with fail
    go_ret
    exact ⟨rfl, kb⟩
end Go.Proofs.YtgoelkgdjnhklaaDoor
namespace Go.Proofs.YtgoelkgdjnhklaaDoor
open Go.RowKit Go.Lib

/-- What the rounds keep: the result's box, and all that was there. -/
def UK (w W : World) : Prop := BoxF W w.heap.size [.int .i64 0, .int .i64 0, .int .i64 0, .int .i64 0] 35 ∧ Below w.heap.size w W
theorem UK.below {w W W' : World} (h : UK w W) (hb : Below W.heap.size W W') : UK w W' := ⟨h.1.below hb, h.2.trans (hb.mono h.2.size)⟩
/-- Is this the group? -/
def HitG (s : ByteArray) (c k a : Nat) : Prop := gOkB (c : Int) (k : Int) (a : Int) 1 = true ∧ bareN c k a = s
def UAns (w : World) (ct kt at_ : Nat) (e : Ending) (w' : World) : Prop := if ct < 7 then AnsF w ct kt at_ 1 true e w' else AnsF w 0 0 0 0 false e w'
theorem uAns_hit {w w' : World} {ct kt at_ : Nat} {e : Ending} (hd : ct < 7) (h : AnsF w ct kt at_ 1 true e w') : UAns w ct kt at_ e w' := by unfold UAns; rw [if_pos hd]; exact h
theorem uAns_miss {w w' : World} {ct kt at_ : Nat} {e : Ending} (hd : ¬ ct < 7) (h : AnsF w 0 0 0 0 false e w') : UAns w ct kt at_ e w' := by unfold UAns; rw [if_neg hd]; exact h
end Go.Proofs.YtgoelkgdjnhklaaDoor
