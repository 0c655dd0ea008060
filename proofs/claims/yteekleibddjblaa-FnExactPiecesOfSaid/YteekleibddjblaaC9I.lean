/- Contract: the model's places beside a cell lie in new memory. -/
import Derived.Test.YteekleibddjblaaC9H
import Derived.Test.YteekleibddjblaaC9B
import Derived.ArgAppend
namespace Go.Proofs.Yteekleibddjblaa
open Go.RowKit

/-- The four places lie in new memory, from B on and below U. -/
def Lies4B (W : World) (B U p : Nat) (x y : Int) : Prop := U ≤ W.heap.size ∧ ∀ k, k < 4 → ∃ g : Nat, W.cell? ⟨p, k, none⟩ = some (.slice (some ⟨g, 0, none⟩) 2 2) ∧ W.cell? ⟨g, 0, none⟩ = some (.int .i64 (bxZ x k)) ∧ W.cell? ⟨g, 1, none⟩ = some (.int .i64 (byZ y k)) ∧ B ≤ p ∧ p < U ∧ B ≤ g ∧ g < U
theorem Lies4B.moved {W W' : World} {B U p : Nat} {x y : Int} (h : Lies4B W B U p x y) (hs : W.heap.size ≤ W'.heap.size) (hk : ∀ b, B ≤ b → b < U → W'.heap[b]? = W.heap[b]?) : Lies4B W' B U p x y := ⟨Nat.le_trans h.1 hs, fun k hk4 => by
  obtain ⟨g, h1, h2, h3, h4, h5, h6, h7⟩ := h.2 k hk4
  exact ⟨g, (World.cell?_of_block (hk p h4 h5)).trans h1, (World.cell?_of_block (hk g h6 h7)).trans h2, (World.cell?_of_block (hk g h6 h7)).trans h3, h4, h5, h6, h7⟩⟩
theorem Lies4B.below {W W' : World} {B U p : Nat} {x y : Int} (h : Lies4B W B U p x y) (hb : Below W.heap.size W W') : Lies4B W' B U p x y := h.moved hb.size (fun b _ hl => hb.block b (Nat.lt_of_lt_of_le hl h.1))
theorem Lies4B.kept {W W' : World} {B U p : Nat} {r : Option Nat} {x y : Int} (h : Lies4B W B U p x y) (hg : W.grownBy W' r) (hr : ∀ q, r = some q → q < B ∨ U ≤ q) : Lies4B W' B U p x y := h.moved hg.size (fun b h1 h2 => hg.block b (Nat.lt_of_lt_of_le h2 h.1) (fun e => by have := hr b e.symm; omega))
/-- A slice that does not lie among blocks from B to U. -/
def FarV (v : Value) (B U : Nat) : Prop := ∀ (b o n c : Nat), v = .slice (some ⟨b, o, none⟩) n c → b < B ∨ U ≤ b
/-- Behind an append with room. -/
theorem QV.room {w : World} {Bq b o cap : Nat} {x : Int} {Q : List Int} (h1 : Bq ≤ b) (h2 : b < w.heap.size) (hr : Q.length + 1 ≤ cap) (h4 : ∀ j, j < cap → (w.cell? ⟨b, o + j, none⟩).isSome = true ∧ w.frozen? ⟨b, o + j, none⟩ = false) (h5 : ∀ j u, (Q.map (Value.int .i64))[j]? = some u → w.cell? ⟨b, o + j, none⟩ = some u) : QV (w.setCells b (o + Q.length) [.int .i64 x]) Bq (.slice (some ⟨b, o, none⟩) (Q.length + 1) cap) (Q ++ [x]) := by
  have hin : (w.setCells b (o + Q.length) [.int .i64 x]).cell? ⟨b, o + Q.length, none⟩ = some (.int .i64 x) := by
    have := World.cell?_setCells_in b [.int .i64 x] (o + Q.length) w (fun j hj => by
      obtain rfl : j = 0 := by simpa using hj
      exact (h4 Q.length (by omega)).1) 0 (by simp)
    simpa using this
  have hout : ∀ j, j ≠ Q.length → (w.setCells b (o + Q.length) [.int .i64 x]).cell? ⟨b, o + j, none⟩ = w.cell? ⟨b, o + j, none⟩ := fun j hj => World.cell?_setCells_out b _ _ w _ (fun _ _ => by simp; omega)
  have hs : (w.setCells b (o + Q.length) [.int .i64 x]).heap.size = w.heap.size := by simp [World.setCells]
  refine ⟨b, o, cap, by simp, h1, by rw [hs]; exact h2, by simp; omega, fun j hj => ⟨?_, by rw [World.frozen?_setCells]; exact (h4 j hj).2⟩, fun j u hu => ?_⟩
  · by_cases e : j = Q.length
    · subst e; rw [hin]; rfl
    · rw [hout j e]; exact (h4 j hj).1
  · by_cases e : j = Q.length
    · subst e
      rw [hin]
      simpa using hu
    · rw [hout j e]
      refine h5 j u ?_
      rw [List.map_append, List.getElem?_append] at hu
      split at hu
      · exact hu
      · rename_i hlt
        simp at hlt
        rw [List.getElem?_eq_none (by simp; omega)] at hu
        cases hu
/-- Behind an append that grew. -/
theorem QV.own {w : World} {Bq n : Nat} {v : Value} {Q : List Int} (h : w.ownsRow Bq 3 1 v n (Q.map (Value.int .i64))) (hn : 0 < n) : QV w Bq v Q := by
  have hl := h.1
  have hc := fun g => World.ownsRow.cells h (g := g)
  rcases h.2 with ⟨_, h0⟩ | ⟨g, cap, cur, rfl, hb, hh, hnc, _, hsz, htk⟩
  · omega
  · have BX : BoxF w g cur.toList 3 := by unfold BoxF; simpa using hh
    simp at hl
    refine ⟨g, 0, cap, by rw [hl], hb, BX.lt, by omega, fun j hj => ⟨?_, BX.free _⟩, fun j u hu => ?_⟩
    · rw [Nat.zero_add, BX.at j, List.getElem?_eq_getElem (by simp; omega)]
      rfl
    · have h9 := hc g rfl j u hu
      rw [Addr.add_lit] at h9
      exact h9
theorem blind_le (L : List Bool) : blindN L ≤ L.length := List.countP_le_length
set_option maxRecDepth 100000 in
set_option maxHeartbeats 2000000 in
theorem l9Beside_new (x y : Int) (w : World) (hx0 : 0 ≤ x) (hx1 : x ≤ 100) (hy0 : 0 ≤ y) (hy1 : y ≤ 100) :
    Calls Try.prog 53 #[.int .i64 x, .int .i64 y] w fun e w' => ∃ p : Nat, e = .returned (.slice (some ⟨p, 0, none⟩) 4 4) ∧ Lies4B w' w.heap.size w'.heap.size p x y ∧ Below w.heap.size w w' := by
  have B0 := ((((BoxF.new w [.int .i64 (x - 1), .int .i64 y] 3).alloc (.cells #[.int .i64 (x + 1), .int .i64 y] 3 (0, 0))).alloc (.cells #[.int .i64 x, .int .i64 (y - 1)] 3 (0, 0))).alloc (.cells #[.int .i64 x, .int .i64 (y + 1)] 3 (0, 0))).alloc (.cells #[.slice (some ⟨w.heap.size, 0, none⟩) 2 2, .slice (some ⟨w.heap.size + 1, 0, none⟩) 2 2, .slice (some ⟨w.heap.size + 1 + 1, 0, none⟩) 2 2, .slice (some ⟨w.heap.size + 1 + 1 + 1, 0, none⟩) 2 2] 26 (0, 0))
  have B1 := (((BoxF.new (w.alloc (.cells #[.int .i64 (x - 1), .int .i64 y] 3 (0, 0))) [.int .i64 (x + 1), .int .i64 y] 3).alloc (.cells #[.int .i64 x, .int .i64 (y - 1)] 3 (0, 0))).alloc (.cells #[.int .i64 x, .int .i64 (y + 1)] 3 (0, 0))).alloc (.cells #[.slice (some ⟨w.heap.size, 0, none⟩) 2 2, .slice (some ⟨w.heap.size + 1, 0, none⟩) 2 2, .slice (some ⟨w.heap.size + 1 + 1, 0, none⟩) 2 2, .slice (some ⟨w.heap.size + 1 + 1 + 1, 0, none⟩) 2 2] 26 (0, 0))
  have B2 := ((BoxF.new ((w.alloc (.cells #[.int .i64 (x - 1), .int .i64 y] 3 (0, 0))).alloc (.cells #[.int .i64 (x + 1), .int .i64 y] 3 (0, 0))) [.int .i64 x, .int .i64 (y - 1)] 3).alloc (.cells #[.int .i64 x, .int .i64 (y + 1)] 3 (0, 0))).alloc (.cells #[.slice (some ⟨w.heap.size, 0, none⟩) 2 2, .slice (some ⟨w.heap.size + 1, 0, none⟩) 2 2, .slice (some ⟨w.heap.size + 1 + 1, 0, none⟩) 2 2, .slice (some ⟨w.heap.size + 1 + 1 + 1, 0, none⟩) 2 2] 26 (0, 0))
  have B3 := (BoxF.new (((w.alloc (.cells #[.int .i64 (x - 1), .int .i64 y] 3 (0, 0))).alloc (.cells #[.int .i64 (x + 1), .int .i64 y] 3 (0, 0))).alloc (.cells #[.int .i64 x, .int .i64 (y - 1)] 3 (0, 0))) [.int .i64 x, .int .i64 (y + 1)] 3).alloc (.cells #[.slice (some ⟨w.heap.size, 0, none⟩) 2 2, .slice (some ⟨w.heap.size + 1, 0, none⟩) 2 2, .slice (some ⟨w.heap.size + 1 + 1, 0, none⟩) 2 2, .slice (some ⟨w.heap.size + 1 + 1 + 1, 0, none⟩) 2 2] 26 (0, 0))
  have BP := BoxF.new ((((w.alloc (.cells #[.int .i64 (x - 1), .int .i64 y] 3 (0, 0))).alloc (.cells #[.int .i64 (x + 1), .int .i64 y] 3 (0, 0))).alloc (.cells #[.int .i64 x, .int .i64 (y - 1)] 3 (0, 0))).alloc (.cells #[.int .i64 x, .int .i64 (y + 1)] 3 (0, 0))) [.slice (some ⟨w.heap.size, 0, none⟩) 2 2, .slice (some ⟨w.heap.size + 1, 0, none⟩) 2 2, .slice (some ⟨w.heap.size + 1 + 1, 0, none⟩) 2 2, .slice (some ⟨w.heap.size + 1 + 1 + 1, 0, none⟩) 2 2] 26
  simp only [World.size_alloc] at B1 B2 B3 BP
  have HL : Lies4B _ w.heap.size _ (w.heap.size + 1 + 1 + 1 + 1) x y := ⟨Nat.le_refl _, fun k hk => by
    have hk4 : k = 0 ∨ k = 1 ∨ k = 2 ∨ k = 3 := by omega
    rcases hk4 with rfl | rfl | rfl | rfl
    · exact ⟨w.heap.size, BP.at 0, B0.at 0, B0.at 1, by omega, BP.lt, by omega, B0.lt⟩
    · exact ⟨w.heap.size + 1, BP.at 1, B1.at 0, B1.at 1, by omega, BP.lt, by omega, B1.lt⟩
    · exact ⟨w.heap.size + 1 + 1, BP.at 2, B2.at 0, B2.at 1, by omega, BP.lt, by omega, B2.lt⟩
    · exact ⟨w.heap.size + 1 + 1 + 1, BP.at 3, B3.at 0, B3.at 1, by omega, BP.lt, by omega, B3.lt⟩⟩
  have HL := Lib.hid HL
  have HB := Lib.hid ((((((Below.refl _ w).alloc (Nat.le_refl _) (.cells #[.int .i64 (x - 1), .int .i64 y] 3 (0, 0))).alloc (by simp) (.cells #[.int .i64 (x + 1), .int .i64 y] 3 (0, 0))).alloc (by simp; omega) (.cells #[.int .i64 x, .int .i64 (y - 1)] 3 (0, 0))).alloc (by simp; omega) (.cells #[.int .i64 x, .int .i64 (y + 1)] 3 (0, 0))).alloc (by simp; omega) (.cells #[.slice (some ⟨w.heap.size, 0, none⟩) 2 2, .slice (some ⟨w.heap.size + 1, 0, none⟩) 2 2, .slice (some ⟨w.heap.size + 1 + 1, 0, none⟩) 2 2, .slice (some ⟨w.heap.size + 1 + 1 + 1, 0, none⟩) 2 2] 26 (0, 0)))
  clear B0 B1 B2 B3 BP
  go_enter Try.func53, Try.ntmps53
  go_wp2_with fail
  go_ret
  exact ⟨_, rfl, HL.out, HB.out⟩
end Go.Proofs.Yteekleibddjblaa
