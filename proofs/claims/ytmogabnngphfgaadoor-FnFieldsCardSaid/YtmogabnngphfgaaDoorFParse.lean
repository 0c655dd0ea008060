/- Contract: the model's l3Parse at every string. -/
import Derived.Test.YtmogabnngphfgaaDoorFPMath
import Derived.Test.YtmogabnngphfgaaDoorFields2
import Derived.Test.YtmogabnngphfgaaDoorSplit
namespace Go.Proofs.YtmogabnngphfgaaDoor
open Go.RowKit

theorem zero_cells {w : World} {b : Nat} {t : TypeId} {L : Array Value} (h : w.heap[b]? = some (.cells L t (0, 0))) : (∀ i v, L[i]? = some v → w.cell? ⟨b, i, none⟩ = some v) ∧ (∀ i, w.frozen? ⟨b, i, none⟩ = false) :=
  ⟨fun i v hv => by simp [World.cell?, h, hv], fun i => by simp [World.frozen?, h]⟩
set_option maxHeartbeats 2000000 in
theorem l3Parse_plain (s : ByteArray) (hs : s.size ≤ 1048576) (p : Nat) (hp0 : 1 ≤ p) (hp : IsParse 9 s p) (w : World) :
    Calls Tryd.prog 37 #[.string s] w (AnsF w 0 0 (p : Int) 0 true) := by
  have cs := fun W => l1Split_any s 32 W hs
  have cp := fun W => l2Parse_any s p hp W
  have CS := Lib.hid cs
  have CP := Lib.hid cp
  clear cs cp hp
  go_enter Tryd.func37, Tryd.ntmps37
  go_wp2_with fail
  refine (CS.out _).mono ?_
  rintro e w1 ⟨v, rfl, g, cap, rfl, ho, hb⟩
  have K := Lib.hid (((Box.new w [.int .i64 0, .int .i64 0, .int .i64 0, .int .i64 0] 25).alloc (.cells #[.int .i64 0, .int .i64 0, .int .i64 0, .int .i64 0] 25)).below hb)
  have hz0 : w.heap.size < w1.heap.size := by have := hb.size; simp at this; omega
  have B1 := Lib.hid (box2 hb)
  have F1 : ∀ i, w1.frozen? ⟨w.heap.size, i, none⟩ = false := fun i => (hb.frozen (p := ⟨w.heap.size, i, none⟩) (by simp; omega)).trans (by simp)
  have HF1 := Lib.hid F1
  clear ho hb F1
  go_wp2_with fail
  refine (CP.out _).mono ?_
  rintro e w2 ⟨rfl, hb⟩
  have K2 := K.out.below hb
  obtain ⟨k0, k1, k2, k3⟩ := (⟨K2.2 0 _ rfl, K2.2 1 _ rfl, K2.2 2 _ rfl, K2.2 3 _ rfl⟩ : _ ∧ _ ∧ _ ∧ _)
  have hf : ∀ i, w2.frozen? ⟨w.heap.size, i, none⟩ = false := fun i => (hb.frozen (p := ⟨w.heap.size, i, none⟩) hz0).trans (HF1.out i)
  have B2 := Lib.hid (B1.out.trans (hb.mono B1.out.size))
  clear hb K2
  go_wp2_with fail
  exact bodyPost_ret (v := .tuple #[.agg #[.int .i64 0, .int .i64 0, .int .i64 (p : Int), .int .i64 0], .bool true]) (by simp [results, Tryd.results37, go_sem, k0, k1, k2, k3]) rfl ⟨rfl, (((B2.out.setCell (by simp) _).setCell (by simp) _).setCell (by simp) _).setCell (by simp) _⟩
set_option maxHeartbeats 2000000 in
theorem l3Parse_short (s : ByteArray) (hs : s.size ≤ 1048576) (hp : IsParse 9 s 0) (hn : 60 < s.size ∨ (splitL 32 s.data.toList).length < 4) (w : World) :
    Calls Tryd.prog 37 #[.string s] w (AnsF w 0 0 0 0 false) := by
  have cs := fun W => l1Split_any s 32 W hs
  have cp := fun W => l2Parse_any s 0 hp W
  have hlen := (splitL_len 32 s.data.toList).2
  have hdl : s.data.toList.length = s.size := by simp
  obtain ⟨n, hnn⟩ : ∃ n, (splitL 32 s.data.toList).length = n := ⟨_, rfl⟩
  unfold OwnStrs at cs
  rw [hnn] at cs hn hlen
  rw [hdl] at hlen
  have CS := Lib.hid cs
  have CP := Lib.hid cp
  clear cs cp hp hnn hdl
  go_enter Tryd.func37, Tryd.ntmps37
  go_wp2_with fail
  refine (CS.out _).mono ?_
  rintro e w1 ⟨v, rfl, g, cap, rfl, ho, hb⟩
  have K := Lib.hid (((Box.new w [.int .i64 0, .int .i64 0, .int .i64 0, .int .i64 0] 25).alloc (.cells #[.int .i64 0, .int .i64 0, .int .i64 0, .int .i64 0] 25)).below hb)
  have KN := Lib.hid ((Box.new (w.alloc (.cells #[.int .i64 0, .int .i64 0, .int .i64 0, .int .i64 0] 25)) [.int .i64 0, .int .i64 0, .int .i64 0, .int .i64 0] 25).below hb)
  have hz0 : w.heap.size < w1.heap.size := by have := hb.size; simp at this; omega
  have B1 := Lib.hid (box2 hb)
  have F1 : ∀ i, w1.frozen? ⟨w.heap.size, i, none⟩ = false := fun i => (hb.frozen (p := ⟨w.heap.size, i, none⟩) (by simp; omega)).trans (by simp)
  have HF1 := Lib.hid F1
  clear ho hb F1
  go_wp2_with fail
  refine (CP.out _).mono ?_
  rintro e w2 ⟨rfl, hb⟩
  have K2 := K.out.below hb
  have K3 := KN.out.below hb
  rw [World.size_alloc] at K3
  obtain ⟨k0, k1, k2, k3⟩ := (⟨K2.2 0 _ rfl, K2.2 1 _ rfl, K2.2 2 _ rfl, K2.2 3 _ rfl⟩ : _ ∧ _ ∧ _ ∧ _)
  obtain ⟨m0, m1, m2, m3⟩ := (⟨K3.2 0 _ rfl, K3.2 1 _ rfl, K3.2 2 _ rfl, K3.2 3 _ rfl⟩ : _ ∧ _ ∧ _ ∧ _)
  have hf : ∀ i, w2.frozen? ⟨w.heap.size, i, none⟩ = false := fun i => (hb.frozen (p := ⟨w.heap.size, i, none⟩) hz0).trans (HF1.out i)
  have B2 := Lib.hid (B1.out.trans (hb.mono B1.out.size))
  clear hb K2 K3
  by_cases h60 : (60 : Int) < (s.size : Int)
  · have e1 : decide ((60 : Int) < (s.size : Int)) = true := by simp; omega
    clear hn
    go_wp2_with fail
    exact bodyPost_ret (v := .tuple #[.agg #[.int .i64 0, .int .i64 0, .int .i64 0, .int .i64 0], .bool false]) (by simp [results, Tryd.results37, go_sem, k0, k1, k2, k3]) rfl ⟨rfl, (((B2.out.setCell (by simp) _).setCell (by simp) _).setCell (by simp) _).setCell (by simp) _⟩
  · have e1 : decide ((60 : Int) < (s.size : Int)) = false := by simp; omega
    have e2 : decide ((n : Int) < 4) = true := by simp; omega
    clear hn
    go_wp2_with fail
    exact bodyPost_ret (v := .tuple #[.agg #[.int .i64 0, .int .i64 0, .int .i64 0, .int .i64 0], .bool false]) (by simp [results, Tryd.results37, go_sem, k0, k1, k2, k3]) rfl ⟨rfl, (((B2.out.setCell (by simp) _).setCell (by simp) _).setCell (by simp) _).setCell (by simp) _⟩
end Go.Proofs.YtmogabnngphfgaaDoor
