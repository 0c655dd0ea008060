/- Several small texts in one: GText2. -/
import Derived.Test.YtgoelkgdjnhklaaDoorK3
import Derived.IntWalk
namespace Go.Proofs.YtgoelkgdjnhklaaDoor
open Go.RowKit

theorem count_cell (w : World) (o : Obj) (n : Nat) (h : n < 6) : ((w.alloc o).alloc (.cells #[.string ⟨#[97]⟩, .string ⟨#[116, 119, 111]⟩, .string ⟨#[116, 104, 114, 101, 101]⟩, .string ⟨#[102, 111, 117, 114]⟩, .string ⟨#[102, 105, 118, 101]⟩, .string ⟨#[115, 105, 120]⟩] 9 (0, 0))).cell? ⟨w.heap.size + 1, n, none⟩ = some (.string (countN n)) := by
  have e : ((w.alloc o).alloc (.cells #[.string ⟨#[97]⟩, .string ⟨#[116, 119, 111]⟩, .string ⟨#[116, 104, 114, 101, 101]⟩, .string ⟨#[102, 111, 117, 114]⟩, .string ⟨#[102, 105, 118, 101]⟩, .string ⟨#[115, 105, 120]⟩] 9 (0, 0))).heap[w.heap.size + 1]? = some (.cells #[.string ⟨#[97]⟩, .string ⟨#[116, 119, 111]⟩, .string ⟨#[116, 104, 114, 101, 101]⟩, .string ⟨#[102, 111, 117, 114]⟩, .string ⟨#[102, 105, 118, 101]⟩, .string ⟨#[115, 105, 120]⟩] 9 (0, 0)) := by
    have h1 := Array.getElem?_push_size (xs := (w.alloc o).heap) (x := Obj.cells #[.string ⟨#[97]⟩, .string ⟨#[116, 119, 111]⟩, .string ⟨#[116, 104, 114, 101, 101]⟩, .string ⟨#[102, 111, 117, 114]⟩, .string ⟨#[102, 105, 118, 101]⟩, .string ⟨#[115, 105, 120]⟩] 9 (0, 0))
    rw [World.size_alloc] at h1
    exact h1
  simp only [World.cell?, e]
  rcases (show n = 0 ∨ n = 1 ∨ n = 2 ∨ n = 3 ∨ n = 4 ∨ n = 5 by omega) with rfl | rfl | rfl | rfl | rfl | rfl <;> rfl
theorem att_cell (W : World) (k m : Nat) (h : m < 2) : (W.alloc (.cells #[.string (attN k 1), .string (attN k 2)] 9 (0, 0))).cell? ⟨W.heap.size, m, none⟩ = some (.string (attN k (m + 1))) := by
  have e : (W.alloc (.cells #[.string (attN k 1), .string (attN k 2)] 9 (0, 0))).heap[W.heap.size]? = some (.cells #[.string (attN k 1), .string (attN k 2)] 9 (0, 0)) := by
    show (W.heap.push _)[W.heap.size]? = _
    exact Array.getElem?_push_size
  simp only [World.cell?, e]
  rcases (show m = 0 ∨ m = 1 by omega) with rfl | rfl <;> rfl
set_option maxHeartbeats 8000000 in
theorem l4Bare_beast (n k m : Nat) (t : Int) (w : World) (hn : n < 6) (hk1 : 1 ≤ k) (hk : k ≤ 3) (hm : m < 2) :
    Calls Tryd.prog 158 #[.agg #[.int .i64 ((n : Int) + 1), .int .i64 (k : Int), .int .i64 ((m : Int) + 1), .int .i64 t]] w fun e w' => e = .returned (.string (bareN (n + 1) k (m + 1))) ∧ Below w.heap.size w w' := by
  have cw := fun W => l4Word_any k (n + 1) W hk1 (by omega) (by omega) (by omega)
  rw [show ((n + 1 : Nat) : Int) = (n : Int) + 1 by omega] at cw
  have ca := fun W => l4Attitudes_any k W hk1 hk
  have hac := fun W => att_cell W k m hm
  have hcc := count_cell w (.cells #[.int .i64 ((n : Int) + 1), .int .i64 (k : Int), .int .i64 ((m : Int) + 1), .int .i64 t] 35 (0, 0)) n hn
  have s1 := kwordN_size (c := n + 1) (show k ≤ 8 by omega) hk1
  have s2 := attN_size (a := m + 1) hk1 hk (by omega) (by omega)
  have s3 := artN_size (c := n + 1) (k := k) (by omega) (by omega)
  obtain ⟨b1, e1⟩ : ∃ b, ((n : Int) + 1 == 1) = b := ⟨_, rfl⟩
  obtain ⟨b2, e2⟩ : ∃ b, ((k : Int) == 2) = b := ⟨_, rfl⟩
  have ha : artN (n + 1) k = if (b1 && b2) = true then ⟨#[97, 110]⟩ else countN n := by
    unfold artN
    by_cases q : n + 1 = 1 ∧ k = 2
    · have r1 : b1 = true := by rw [← e1, beq_iff_eq]; omega
      have r2 : b2 = true := by rw [← e2, beq_iff_eq]; omega
      rw [if_pos q, r1, r2]; rfl
    · rw [if_neg q, if_neg (fun e => q (by
        rw [Bool.and_eq_true] at e
        have r1 := e1.trans e.1
        have r2 := e2.trans e.2
        rw [beq_iff_eq] at r1 r2
        omega))]
      rfl
  have hbr : bareN (n + 1) k (m + 1) = artN (n + 1) k ++ ⟨#[32]⟩ ++ kwordN k (n + 1) ++ ⟨#[32]⟩ ++ attN k (m + 1) := by unfold bareN; rw [if_neg (by omega)]
  rw [hbr, ha]
  rw [ha] at s3
  generalize kwordN k (n + 1) = tK at *
  generalize attN k (m + 1) = tA at *
  have keep : ∀ (W w1 : World), Below W.heap.size W w1 → W.cell? ⟨w.heap.size, 1, none⟩ = some (.int .i64 (k : Int)) ∧ W.cell? ⟨w.heap.size, 2, none⟩ = some (.int .i64 ((m : Int) + 1)) ∧ Below w.heap.size w W → w1.cell? ⟨w.heap.size, 1, none⟩ = some (.int .i64 (k : Int)) ∧ w1.cell? ⟨w.heap.size, 2, none⟩ = some (.int .i64 ((m : Int) + 1)) ∧ Below w.heap.size w w1 := fun W w1 hb h =>
    ⟨(hb.cell (p := ⟨w.heap.size, 1, none⟩) (World.block_lt_of_cell? W _ h.1)).trans h.1, (hb.cell (p := ⟨w.heap.size, 2, none⟩) (World.block_lt_of_cell? W _ h.2.1)).trans h.2.1, h.2.2.trans (hb.mono h.2.2.size)⟩
  have CA := Lib.hid (fun W h => (ca W).mono (fun e w' (hh : e = Ending.returned (.slice (some ⟨W.heap.size, 0, none⟩) 2 2) ∧ w' = W.alloc (.cells #[.string (attN k 1), .string (attN k 2)] 9 (0, 0))) => (⟨hh.1, by rw [hh.2]; exact hac W, keep W w' (by rw [hh.2]; exact (Below.refl _ W).alloc (Nat.le_refl _) _) h⟩ : e = Ending.returned (.slice (some ⟨W.heap.size, 0, none⟩) 2 2) ∧ w'.cell? ⟨W.heap.size, m, none⟩ = some (.string tA) ∧ _)))
  have CW := Lib.hid cw
  clear ca hac keep cw hbr ha
  have hmi : (0 : Int) ≤ (m : Int) := by omega
  have hm2 : (m : Int) < 2 := by omega
  have smi : IntKind.i64.wrap (m : Int) = (m : Int) := IntWalk.i64_in _ (by omega)
  have sC : (countN n).size ≤ 5 := by
    have h := artN_size (c := n + 1) (k := 1) (by omega) (by omega)
    unfold artN at h
    rw [if_neg (by omega)] at h
    exact h
  generalize countN n = tC at *
  have e3 : decide ((0 : Int) < (m : Int) + 1) = true := decide_eq_true (by omega)
  rcases b1 with _ | _ <;> rcases b2 with _ | _
  all_goals
    simp only [Bool.and_self, Bool.and_true, Bool.and_false, Bool.false_eq_true, if_false, if_true] at s3 ⊢
    have z2 : (ByteArray.mk #[97, 110]).size = 2 := rfl
    have n1 : ¬ 9223372036854775807 < tC.size + 1 := by omega
    have n2 : ¬ 9223372036854775807 < tC.size + 1 + tK.size := by omega
    have n3 : ¬ 9223372036854775807 < tC.size + 1 + tK.size + 1 := by omega
    have n4 : ¬ 9223372036854775807 < tC.size + 1 + tK.size + 1 + tA.size := by omega
    have m1 : ¬ 9223372036854775807 < 3 + tK.size := by omega
    have m2 : ¬ 9223372036854775807 < 3 + tK.size + 1 := by omega
    have m3 : ¬ 9223372036854775807 < 3 + tK.size + 1 + tA.size := by omega
    go_enter Tryd.func158, Tryd.ntmps158
    have gB := (((Below.refl w.heap.size w).alloc (Nat.le_refl _) (.cells #[.int .i64 ((n : Int) + 1), .int .i64 (k : Int), .int .i64 ((m : Int) + 1), .int .i64 t] 35 (0, 0))).alloc (by simp) (.cells #[.string ⟨#[97]⟩, .string ⟨#[116, 119, 111]⟩, .string ⟨#[116, 104, 114, 101, 101]⟩, .string ⟨#[102, 111, 117, 114]⟩, .string ⟨#[102, 105, 118, 101]⟩, .string ⟨#[115, 105, 120]⟩] 9 (0, 0)))
    go_wp2_with fail
    refine (CW.out _).mono ?_
    rintro e w1 ⟨rfl, hbl⟩
    have g1 : w1.cell? ⟨w.heap.size, 1, none⟩ = some (.int .i64 (k : Int)) := (hbl.cell (p := ⟨w.heap.size, 1, none⟩) (by simp; omega)).trans (by simp)
    have g2 : w1.cell? ⟨w.heap.size, 2, none⟩ = some (.int .i64 ((m : Int) + 1)) := (hbl.cell (p := ⟨w.heap.size, 2, none⟩) (by simp; omega)).trans (by simp)
    have gB1 := (gB.trans (hbl.mono (by simp; omega))).drew
    clear hbl gB CW hcc
    go_wp2_with fail
    go_region_with (go_at_call 172; (refine (CA.out w1.drew ⟨g1, g2, gB1⟩).mono ?_); rintro e w2 ⟨rfl, hr, h2, h3, hb⟩; have hr2 : w2.cell? ⟨w1.heap.size, m, none⟩ = some (.string tA) := hr)
    all_goals
      clear hr CA
      go_wp2_with fail
      go_ret
      exact ⟨rfl, hb⟩
end Go.Proofs.YtgoelkgdjnhklaaDoor
