/- Contracts: the cursor by which the laws draw their inputs: next, pick, one, of, among. -/
import Derived.Test.YthapidnjioindaaDoorBase
import Derived.Test.YthapidnjioindaaDoorProg
import Derived.WalkLawsBesides
import Derived.Deep.QuietTactic
import Derived.BigQuiet
import Derived.IntWalk
import Derived.OwnWalk
import Derived.Laws.Rows
import Derived.Laws.AppendOwn
import Derived.Maps.AppendAt
import Derived.Laws.BitsLemmas
namespace Go.Proofs.YthapidnjioindaaDoor
open Go.RowKit

/-- The bytes that came in: n of them, at a, each from 0 to 255, in blocks below B. -/
def RdB (w : World) (B : Nat) (a : Option Addr) (n : Nat) : Prop :=
  0 < n → ∃ b o, a = some ⟨b, o, none⟩ ∧ b < B ∧ ∀ k, k < n → ∃ x : Int, w.cell? ⟨b, o + k, none⟩ = some (.int .u8 x) ∧ 0 ≤ x ∧ x ≤ 255
/-- Block p is a cursor over these bytes that has been moved at most M times. -/
def IsCur (w : World) (B p : Nat) (a : Option Addr) (n cap M : Nat) : Prop :=
  B ≤ p ∧ RdB w B a n ∧ ∃ (at_ : Nat) (seed : Int), at_ ≤ M ∧ w.heap[p]? = some (.cells #[.slice a n cap, .int .i64 at_, .int .u64 seed] 77 (0, 0))

theorem cur_cells {w : World} {p : Nat} {u v x : Value} {t : TypeId} (h : w.heap[p]? = some (.cells #[u, v, x] t (0, 0))) :
    w.cell? ⟨p, 0, none⟩ = some u ∧ w.cell? ⟨p, 1, none⟩ = some v ∧ w.cell? ⟨p, 2, none⟩ = some x ∧ (∀ i, w.frozen? ⟨p, i, none⟩ = false) := by
  refine ⟨?_, ?_, ?_, fun i => ?_⟩ <;> simp [World.cell?, World.frozen?, h]

theorem cur_moved {w : World} {B p : Nat} {a : Option Addr} {n cap M at_ : Nat} {seed : Int} (hB : B ≤ p) (hR : RdB w B a n) (hat : at_ ≤ M)
    (hp : w.heap[p]? = some (.cells #[.slice a n cap, .int .i64 at_, .int .u64 seed] 77 (0, 0))) (q1 q2 : Nat) (s' : Int) :
    IsCur ((((w.drewN q1).setCell ⟨p, 1, none⟩ (.int .i64 ((at_ : Int) + 1))).setCell ⟨p, 2, none⟩ (.int .u64 s')).drewN q2) B p a n cap (M + 1) ∧
      w.grownBy ((((w.drewN q1).setCell ⟨p, 1, none⟩ (.int .i64 ((at_ : Int) + 1))).setCell ⟨p, 2, none⟩ (.int .u64 s')).drewN q2) (some p) := by
  have hblk : ∀ k, k ≠ p → ((((w.drewN q1).setCell ⟨p, 1, none⟩ (.int .i64 ((at_ : Int) + 1))).setCell ⟨p, 2, none⟩ (.int .u64 s')).drewN q2).heap[k]? = w.heap[k]? := fun k hk =>
    (Below.heap_setCell _ ⟨p, 2, none⟩ _ k hk).trans (Below.heap_setCell _ ⟨p, 1, none⟩ _ k hk)
  refine ⟨⟨hB, fun hn => ?_, at_ + 1, s', by omega, ?_⟩, ⟨rfl, rfl, rfl, by simp [World.setCell], fun k _ hk => hblk k (fun e => hk (by rw [e]))⟩⟩
  · obtain ⟨b, o, e, hb, hc⟩ := hR hn
    refine ⟨b, o, e, hb, fun k hk => ?_⟩
    obtain ⟨x, hx, h0, h1⟩ := hc k hk
    exact ⟨x, (World.cell?_of_block (hblk b (by omega))).trans hx, h0, h1⟩
  · show ((((w.drewN q1).setCell ⟨p, 1, none⟩ (.int .i64 ((at_ : Int) + 1))).setCell ⟨p, 2, none⟩ (.int .u64 s'))).heap[p]? = _
    simp [World.setCell, Array.getElem?_modify]
    exact ⟨_, hp, rfl⟩

theorem low8 (s : Int) : 0 ≤ wrap64 (bits .and .u64 (IntKind.u64.wrap s / 1099511627776) 255) ∧ wrap64 (bits .and .u64 (IntKind.u64.wrap s / 1099511627776) 255) ≤ 255 := by
  have hw : IntKind.u64.wrap s = s % 18446744073709551616 := IntKind.wrap_u64 s
  have hk : ∀ n : Int, 0 ≤ n → n < 2 ^ 63 → IntKind.u64.wrap n = n := fun n h₀ h₁ => by rw [IntKind.wrap_u64]; omega
  have hm := bits_mask .u64 63 (by decide) hk 8 (by decide) (IntKind.u64.wrap s / 1099511627776) (by omega) (by omega)
  have e : ((2 : Int) ^ 8 - 1) = 255 := by decide
  have e2 : ((2 : Int) ^ 8) = 256 := by decide
  rw [e, e2] at hm
  rw [hm]
  unfold wrap64
  omega

set_option maxHeartbeats 2000000 in
theorem next_any (B p : Nat) (a : Option Addr) (n cap M : Nat) (w : World) (h : IsCur w B p a n cap M) (hM : M ≤ 1000000) (hn : n ≤ 65536) :
    Calls Tryd.prog 99 #[.pointer (some ⟨p, 0, none⟩)] w fun e w' => (∃ r : Int, e = .returned (.int .i64 r) ∧ 0 ≤ r ∧ r ≤ 255) ∧ IsCur w' B p a n cap (M + 1) ∧ w.grownBy w' (some p) := by
  obtain ⟨hB, hR, at_, seed, hat, hp⟩ := h
  obtain ⟨f0, f1, f2, fz⟩ := cur_cells hp
  have z1 := fz 1
  have z2 := fz 2
  have HP := Lib.hid hp
  have HR := Lib.hid hR
  clear hp hR fz
  by_cases hlt : at_ < n
  · obtain ⟨b, o, rfl, hb, hc⟩ := HR.out (by omega)
    obtain ⟨x, hx, hx0, hx1⟩ := hc at_ hlt
    clear hc
    go_enter Tryd.func99, Tryd.ntmps99
    go_wp2_with fail
    go_quiet (fail)
    go_wp2_with fail
    go_quiet (fail)
    go_wp2_with fail
    go_quiet (fail)
    go_wp2_with fail
    go_ret
    exact ⟨⟨x, rfl, hx0, hx1⟩, cur_moved hB HR.out hat HP.out _ _ _⟩
  · have hge : decide ((at_ : Int) < (n : Int)) = false := by simp; omega
    go_enter Tryd.func99, Tryd.ntmps99
    go_wp2_with fail
    go_quiet (fail)
    go_wp2_with fail
    go_quiet (fail)
    go_wp2_with fail
    go_ret
    exact ⟨⟨_, rfl, (low8 _).1, (low8 _).2⟩, cur_moved hB HR.out hat HP.out _ _ _⟩
end Go.Proofs.YthapidnjioindaaDoor
