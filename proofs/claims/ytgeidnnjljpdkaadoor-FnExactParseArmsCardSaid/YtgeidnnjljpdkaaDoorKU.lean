/- Several small texts in one: FParse, FParse2, SParse. -/
import Derived.Test.YtgeidnnjljpdkaaDoorKF
import Derived.Test.YtgeidnnjljpdkaaDoorKC
import Derived.Test.YtgeidnnjljpdkaaDoorKY
import Derived.Test.YtgeidnnjljpdkaaDoorKD
import Derived.Test.YtgeidnnjljpdkaaDoorKR
import Derived.Deep.RegionHeld3
namespace Go.Proofs.YtgeidnnjljpdkaaDoor
open Go.RowKit

theorem zero_cells {w : World} {b : Nat} {t : TypeId} {L : Array Value} (h : w.heap[b]? = some (.cells L t (0, 0))) : (∀ i v, L[i]? = some v → w.cell? ⟨b, i, none⟩ = some v) ∧ (∀ i, w.frozen? ⟨b, i, none⟩ = false) :=
  ⟨fun i v hv => by simp [World.cell?, h, hv], fun i => by simp [World.frozen?, h]⟩
set_option maxHeartbeats 2000000 in
theorem l3Parse_plain (s : ByteArray) (hs : s.size ≤ 1048576) (p : Nat) (hp0 : 1 ≤ p) (hp : IsParse 9 s p) (w : World) :
    Calls Tryd.prog 114 #[.string s] w (AnsF w 0 0 (p : Int) 0 true) := by
  have cs := fun W => l1Split_any s 32 W hs
  have cp := fun W => l2Parse_any s p hp W
  have CS := Lib.hid cs
  have CP := Lib.hid cp
  clear cs cp hp
  go_enter Tryd.func114, Tryd.ntmps114
  go_wp2_with fail
  refine (CS.out _).mono ?_
  rintro e w1 ⟨v, rfl, g, cap, rfl, ho, hb⟩
  have K := Lib.hid (((Box.new w [.int .i64 0, .int .i64 0, .int .i64 0, .int .i64 0] 33).alloc (.cells #[.int .i64 0, .int .i64 0, .int .i64 0, .int .i64 0] 33)).below hb)
  have hz0 : w.heap.size < w1.heap.size := by have := hb.size; simp at this; omega
  have B1 := Lib.hid (box2 hb)
  have F1 : ∀ i, w1.frozen? ⟨w.heap.size, i, none⟩ = false := fun i => (hb.frozen (p := ⟨w.heap.size, i, none⟩) (by simp; omega)).trans (by simp)
  have HF1 := Lib.hid F1
  clear ho hb F1
  go_wp2_with fail
  refine (CP.out _).mono ?_
  rintro e w2 ⟨rfl, hb⟩
  have K2 := K.out.below hb
  obtain ⟨k0, k1, k2, k3⟩ := (⟨K2.2 0 _ rfl, K2.2 1 _ rfl, K2.2 2 _ rfl, K2.2 3 _ rfl⟩ : _ ∧ _ ∧ _ ∧ _)
  have hf : ∀ i, w2.frozen? ⟨w.heap.size, i, none⟩ = false := fun i => (hb.frozen (p := ⟨w.heap.size, i, none⟩) hz0).trans (HF1.out i)
  have B2 := Lib.hid (B1.out.trans (hb.mono B1.out.size))
  clear hb K2
  go_wp2_with fail
  exact bodyPost_ret (v := .tuple #[.agg #[.int .i64 0, .int .i64 0, .int .i64 (p : Int), .int .i64 0], .bool true]) (by simp [results, Tryd.results114, go_sem, k0, k1, k2, k3]) rfl ⟨rfl, (((B2.out.setCell (by simp) _).setCell (by simp) _).setCell (by simp) _).setCell (by simp) _⟩
set_option maxHeartbeats 2000000 in
theorem l3Parse_short (s : ByteArray) (hs : s.size ≤ 1048576) (hp : IsParse 9 s 0) (hn : 60 < s.size ∨ (splitL 32 s.data.toList).length < 4) (w : World) :
    Calls Tryd.prog 114 #[.string s] w (AnsF w 0 0 0 0 false) := by
  have cs := fun W => l1Split_any s 32 W hs
  have cp := fun W => l2Parse_any s 0 hp W
  have hlen := (splitL_len 32 s.data.toList).2
  have hdl : s.data.toList.length = s.size := by simp
  obtain ⟨n, hnn⟩ : ∃ n, (splitL 32 s.data.toList).length = n := ⟨_, rfl⟩
  unfold OwnStrs at cs
  rw [hnn] at cs hn hlen
  rw [hdl] at hlen
  have CS := Lib.hid cs
  have CP := Lib.hid cp
  clear cs cp hp hnn hdl
  go_enter Tryd.func114, Tryd.ntmps114
  go_wp2_with fail
  refine (CS.out _).mono ?_
  rintro e w1 ⟨v, rfl, g, cap, rfl, ho, hb⟩
  have K := Lib.hid (((Box.new w [.int .i64 0, .int .i64 0, .int .i64 0, .int .i64 0] 33).alloc (.cells #[.int .i64 0, .int .i64 0, .int .i64 0, .int .i64 0] 33)).below hb)
  have KN := Lib.hid ((Box.new (w.alloc (.cells #[.int .i64 0, .int .i64 0, .int .i64 0, .int .i64 0] 33)) [.int .i64 0, .int .i64 0, .int .i64 0, .int .i64 0] 33).below hb)
  have hz0 : w.heap.size < w1.heap.size := by have := hb.size; simp at this; omega
  have B1 := Lib.hid (box2 hb)
  have F1 : ∀ i, w1.frozen? ⟨w.heap.size, i, none⟩ = false := fun i => (hb.frozen (p := ⟨w.heap.size, i, none⟩) (by simp; omega)).trans (by simp)
  have HF1 := Lib.hid F1
  clear ho hb F1
  go_wp2_with fail
  refine (CP.out _).mono ?_
  rintro e w2 ⟨rfl, hb⟩
  have K2 := K.out.below hb
  have K3 := KN.out.below hb
  rw [World.size_alloc] at K3
  obtain ⟨k0, k1, k2, k3⟩ := (⟨K2.2 0 _ rfl, K2.2 1 _ rfl, K2.2 2 _ rfl, K2.2 3 _ rfl⟩ : _ ∧ _ ∧ _ ∧ _)
  obtain ⟨m0, m1, m2, m3⟩ := (⟨K3.2 0 _ rfl, K3.2 1 _ rfl, K3.2 2 _ rfl, K3.2 3 _ rfl⟩ : _ ∧ _ ∧ _ ∧ _)
  have hf : ∀ i, w2.frozen? ⟨w.heap.size, i, none⟩ = false := fun i => (hb.frozen (p := ⟨w.heap.size, i, none⟩) hz0).trans (HF1.out i)
  have B2 := Lib.hid (B1.out.trans (hb.mono B1.out.size))
  clear hb K2 K3
  by_cases h60 : (60 : Int) < (s.size : Int)
  · have e1 : decide ((60 : Int) < (s.size : Int)) = true := by simp; omega
    clear hn
    go_wp2_with fail
    exact bodyPost_ret (v := .tuple #[.agg #[.int .i64 0, .int .i64 0, .int .i64 0, .int .i64 0], .bool false]) (by simp [results, Tryd.results114, go_sem, k0, k1, k2, k3]) rfl ⟨rfl, (((B2.out.setCell (by simp) _).setCell (by simp) _).setCell (by simp) _).setCell (by simp) _⟩
  · have e1 : decide ((60 : Int) < (s.size : Int)) = false := by simp; omega
    have e2 : decide ((n : Int) < 4) = true := by simp; omega
    clear hn
    go_wp2_with fail
    exact bodyPost_ret (v := .tuple #[.agg #[.int .i64 0, .int .i64 0, .int .i64 0, .int .i64 0], .bool false]) (by simp [results, Tryd.results114, go_sem, k0, k1, k2, k3]) rfl ⟨rfl, (((B2.out.setCell (by simp) _).setCell (by simp) _).setCell (by simp) _).setCell (by simp) _⟩
end Go.Proofs.YtgeidnnjljpdkaaDoor
namespace Go.Proofs.YtgeidnnjljpdkaaDoor
open Go.RowKit

def z4 : List Value := [.int .i64 0, .int .i64 0, .int .i64 0, .int .i64 0]
/-- What the rounds keep: both boxes, the two words, and all that was there. -/
def PKeep (w : World) (g n : Nat) (a b : ByteArray) (W : World) : Prop :=
  Box W w.heap.size z4 ∧ (∀ i, W.frozen? ⟨w.heap.size, i, none⟩ = false) ∧ Box W (w.heap.size + 1) z4 ∧ (g < W.heap.size ∧ W.cell? ⟨g, n, none⟩ = some (.string a) ∧ W.cell? ⟨g, n + 2, none⟩ = some (.string b)) ∧ Below w.heap.size w W
theorem PKeep.below {w W w1 : World} {g n : Nat} {a b : ByteArray} (h : PKeep w g n a b W) (hb : Below W.heap.size W w1) : PKeep w g n a b w1 :=
  ⟨h.1.below hb, fun i => (hb.frozen (p := ⟨w.heap.size, i, none⟩) h.1.1).trans (h.2.1 i), h.2.2.1.below hb,
    ⟨Nat.lt_of_lt_of_le h.2.2.2.1.1 hb.size, (hb.cell (p := ⟨g, n, none⟩) h.2.2.2.1.1).trans h.2.2.2.1.2.1, (hb.cell (p := ⟨g, n + 2, none⟩) h.2.2.2.1.1).trans h.2.2.2.1.2.2⟩, h.2.2.2.2.trans (hb.mono h.2.2.2.2.size)⟩
theorem PKeep.drew {w W : World} {g n : Nat} {a b : ByteArray} (h : PKeep w g n a b W) : PKeep w g n a b W.drew := h.below (Below.refl _ W).drew
theorem PKeep.three {w W : World} {g n : Nat} {a b : ByteArray} (h : PKeep w g n a b W) : W.cell? ⟨g, n, none⟩ = some (.string a) ∧ W.cell? ⟨g, n + 2, none⟩ = some (.string b) ∧ PKeep w g n a b W := ⟨h.2.2.2.1.2.1, h.2.2.2.1.2.2, h⟩
theorem PKeep.laid {w W : World} {g n : Nat} {a b : ByteArray} (h : PKeep w g n a b W) (o : Obj) : PKeep w g n a b (W.alloc o) := h.below ((Below.refl _ W).alloc (Nat.le_refl _) o)
def ParseAns (w : World) (dt lt p1 p2 : Nat) (e : Ending) (w' : World) : Prop := if dt < 8 then AnsF w dt lt p1 p2 true e w' else AnsF w 0 0 0 0 false e w'
theorem parseAns_hit {w w' : World} {dt lt p1 p2 : Nat} {e : Ending} (hd : dt < 8) (h : AnsF w dt lt p1 p2 true e w') : ParseAns w dt lt p1 p2 e w' := by unfold ParseAns; rw [if_pos hd]; exact h
theorem parseAns_miss {w w' : World} {dt lt p1 p2 : Nat} {e : Ending} (hd : ¬ dt < 8) (h : AnsF w 0 0 0 0 false e w') : ParseAns w dt lt p1 p2 e w' := by unfold ParseAns; rw [if_neg hd]; exact h
/-- The same behind the drawn start of a round, whose heap ends at N. -/
def PK2 (w : World) (g n N : Nat) (a b : ByteArray) (W : World) : Prop := PKeep w g n a b W ∧ N ≤ W.heap.size
def PS (w : World) (g n N : Nat) (a b : ByteArray) (W : World) : Prop := W.cell? ⟨g, n, none⟩ = some (.string a) ∧ W.cell? ⟨g, n + 2, none⟩ = some (.string b) ∧ PK2 w g n N a b W
theorem ps_of {w W : World} {g n N : Nat} {a b : ByteArray} (h : PKeep w g n a b W) (hN : N ≤ W.heap.size) : W.cell? ⟨g, n, none⟩ = some (.string a) ∧ W.cell? ⟨g, n + 2, none⟩ = some (.string b) ∧ PK2 w g n N a b W := ⟨h.2.2.2.1.2.1, h.2.2.2.1.2.2, h, hN⟩
theorem ps_below {w W W' : World} {g n N : Nat} {a b : ByteArray} (h : W.cell? ⟨g, n, none⟩ = some (.string a) ∧ W.cell? ⟨g, n + 2, none⟩ = some (.string b) ∧ PK2 w g n N a b W) (hb : Below W.heap.size W W') : W'.cell? ⟨g, n, none⟩ = some (.string a) ∧ W'.cell? ⟨g, n + 2, none⟩ = some (.string b) ∧ PK2 w g n N a b W' :=
  ps_of (h.2.2.1.below hb) (Nat.le_trans h.2.2.2 hb.size)
theorem ps_alloc {w W : World} {g n N : Nat} {a b : ByteArray} {o : Obj} (h : W.cell? ⟨g, n, none⟩ = some (.string a) ∧ W.cell? ⟨g, n + 2, none⟩ = some (.string b) ∧ PK2 w g n N a b W) : (W.alloc o).cell? ⟨g, n, none⟩ = some (.string a) ∧ (W.alloc o).cell? ⟨g, n + 2, none⟩ = some (.string b) ∧ PK2 w g n N a b (W.alloc o) :=
  ps_below h ((Below.refl _ W).alloc (Nat.le_refl _) o)
theorem ps_drew {w W : World} {g n N : Nat} {a b : ByteArray} (h : W.cell? ⟨g, n, none⟩ = some (.string a) ∧ W.cell? ⟨g, n + 2, none⟩ = some (.string b) ∧ PK2 w g n N a b W) : W.drew.cell? ⟨g, n, none⟩ = some (.string a) ∧ W.drew.cell? ⟨g, n + 2, none⟩ = some (.string b) ∧ PK2 w g n N a b W.drew :=
  ps_below h (Below.refl _ W).drew
theorem PKeep.set {w W : World} {g n : Nat} {a b : ByteArray} (h : PKeep w g n a b W) {c : Nat} (h0 : w.heap.size + 1 < c) (h1 : g < c) (i : Nat) (v : Value) : PKeep w g n a b (W.setCell ⟨c, i, none⟩ v) := by
  obtain ⟨x, xf, y, ⟨k0, k1, k2⟩, hb⟩ := h
  have far : ∀ d j, d ≠ c → (W.setCell ⟨c, i, none⟩ v).cell? ⟨d, j, none⟩ = W.cell? ⟨d, j, none⟩ := fun d j hd => World.cell?_setCell_other _ _ _ _ (fun e => hd (Addr.mk.inj e).1.symm)
  refine ⟨⟨by simpa using x.1, fun j u hj => (far _ _ (by omega)).trans (x.2 j u hj)⟩, fun j => by simpa using xf j, ⟨by simpa using y.1, fun j u hj => (far _ _ (by omega)).trans (y.2 j u hj)⟩, ⟨by simpa using k0, (far _ _ (by omega)).trans k1, (far _ _ (by omega)).trans k2⟩, hb.setCell (p := ⟨c, i, none⟩) (show w.heap.size ≤ c by omega) v⟩
theorem ps_set4 {w W : World} {g n N : Nat} {a b : ByteArray} {c : Nat} {v0 v1 v2 v3 : Value} (hN : w.heap.size + 1 < N ∧ g < N) (hc : N ≤ c) (h : W.cell? ⟨g, n, none⟩ = some (.string a) ∧ W.cell? ⟨g, n + 2, none⟩ = some (.string b) ∧ PK2 w g n N a b W) :
    ((((W.setCell ⟨c, 0, none⟩ v0).setCell ⟨c, 1, none⟩ v1).setCell ⟨c, 2, none⟩ v2).setCell ⟨c, 3, none⟩ v3).cell? ⟨g, n, none⟩ = some (.string a) ∧ ((((W.setCell ⟨c, 0, none⟩ v0).setCell ⟨c, 1, none⟩ v1).setCell ⟨c, 2, none⟩ v2).setCell ⟨c, 3, none⟩ v3).cell? ⟨g, n + 2, none⟩ = some (.string b) ∧ PK2 w g n N a b ((((W.setCell ⟨c, 0, none⟩ v0).setCell ⟨c, 1, none⟩ v1).setCell ⟨c, 2, none⟩ v2).setCell ⟨c, 3, none⟩ v3) :=
  ps_of ((((h.2.2.1.set (by omega) (by omega) 0 v0).set (by omega) (by omega) 1 v1).set (by omega) (by omega) 2 v2).set (by omega) (by omega) 3 v3) (by simpa using h.2.2.2)
/-- Is this the field? -/
def HitF (s : ByteArray) (d l p1 p2 : Nat) : Prop := FOk d l p1 p2 ∧ textN d l (p1 - 1) (p2 - 1) = s

set_option maxRecDepth 100000 in
set_option maxHeartbeats 8000000 in
theorem l3Parse_loop (s a b : ByteArray) (hs : s.size ≤ 60) (hp : IsParse 9 s 0) (n : Nat) (hn : 1 ≤ n) (hws : (splitL 32 s.data.toList).length = n + 3) (ha : (splitL 32 s.data.toList)[n]? = some a.data.toList) (hb : (splitL 32 s.data.toList)[n + 2]? = some b.data.toList)
    (p1 p2 : Nat) (hp1 : IsParse 9 a p1) (hp2 : IsParse 9 b p2) (dt lt : Nat) (hd1 : 1 ≤ dt) (hl5 : lt < 5) (hT : ∀ d l, 1 ≤ d → d < 8 → l < 5 → (HitF s d l p1 p2 ↔ (d = dt ∧ l = lt))) (w : World) :
    Calls Tryd.prog 114 #[.string s] w (ParseAns w dt lt p1 p2) := by
  have cs := fun W => l1Split_any s 32 W (by omega)
  have cp := fun W => l2Parse_any s 0 hp W
  have hlen := (splitL_len 32 s.data.toList).2
  have hdl : s.data.toList.length = s.size := by simp
  unfold OwnStrs at cs
  rw [hws] at cs hlen
  rw [hdl] at hlen
  have ca := fun W => l2Parse_any a p1 hp1 W
  have cb := fun W => l2Parse_any b p2 hp2 W
  have hp1l := isParse_le hp1
  have hp2l := isParse_le hp2
  have CS := Lib.hid cs
  have CP := Lib.hid cp
  have HA := Lib.hid ha
  have HB := Lib.hid hb
  have HT := Lib.hid hT
  have e60 : decide ((60 : Int) < (s.size : Int)) = false := by simp; omega
  have e4 : decide ((n : Int) + 3 < 4) = false := by simp; omega
  clear cs cp hp hdl ha hb hT hws hp1 hp2
  go_enter Tryd.func114, Tryd.ntmps114
  go_wp2_with fail
  refine (CS.out _).mono ?_
  rintro e w1 ⟨v, rfl, g, cap, rfl, ho, hb⟩
  have PK : PKeep w g n a b w1 := by
    refine ⟨((Box.new w z4 33).alloc (.cells #[.int .i64 0, .int .i64 0, .int .i64 0, .int .i64 0] 33)).below hb, fun i => (hb.frozen (p := ⟨w.heap.size, i, none⟩) (by simp; omega)).trans (by simp), ?_, ⟨(ho.lt g rfl).2, ?_, ?_⟩, box2 hb⟩
    · have h := (Box.new (w.alloc (.cells #[.int .i64 0, .int .i64 0, .int .i64 0, .int .i64 0] 33)) z4 33).below hb
      rw [World.size_alloc] at h
      exact h
    · rw [ho.cellAt n (by omega), List.getElem?_map, HA.out]; rfl
    · rw [ho.cellAt (n + 2) (by omega), List.getElem?_map, HB.out]; rfl
  have HPK := Lib.hid PK
  clear ho hb PK
  go_wp2_with fail
  refine (CP.out _).mono ?_
  rintro e w2 ⟨rfl, hb⟩
  have HPK2 := Lib.hid (HPK.out.below hb)
  clear hb HPK
  go_wp2_with fail
  go_loopw [8] (fun x wr => ∃ k : Nat, 1 ≤ k ∧ k ≤ 8 ∧ k ≤ dt ∧ x = .int .i64 k ∧ Hid (PKeep w g n a b wr)) (fun x _ => 9 - (intOf x).toNat)
  case atStart => exact ⟨1, by omega, by omega, hd1, rfl, HPK2⟩
  case round =>
    obtain ⟨k, hk1, hk8, hkd, rfl, HK⟩ := hrel
    clear HPK2
    by_cases hlt : k < 8
    · have e31 : decide ((k : Int) ≤ 7) = true := by simp; omega
      go_wp2_with fail
      go_loopw [9] (fun y wr => ∃ m : Nat, m ≤ 5 ∧ (k < dt ∨ m ≤ lt) ∧ y = .int .i64 m ∧ Hid (PKeep w g n a b wr)) (fun y _ => 5 - (intOf y).toNat)
      case atStart => exact ⟨0, by omega, by omega, rfl, HK⟩
      case round =>
        obtain ⟨m, hm5, hmt, rfl, HM⟩ := hrel
        by_cases hml : m < 5
        · have q1 := HM.out.2.2.2.1.2.1
          have q2 := HM.out.2.2.2.1.2.2
          have s1 : IntKind.i64.wrap ((n : Int) + 3 - 3) = (n : Int) := by rw [show (n : Int) + 3 - 3 = (n : Int) by omega]; exact IntWalk.i64_in _ (by omega)
          have s2 : IntKind.i64.wrap ((n : Int) + 3 - 1) = (n : Int) + 2 := by rw [show (n : Int) + 3 - 1 = (n : Int) + 2 by omega]; exact IntWalk.i64_in _ (by omega)
          have s1b : IntKind.i64.wrap (n : Int) = (n : Int) := IntWalk.i64_in _ (by omega)
          have s2b : IntKind.i64.wrap ((n : Int) + 2) = (n : Int) + 2 := IntWalk.i64_in _ (by omega)
          have s3 : ((n : Int) + 2).toNat = n + 2 := by omega
          have s4 : (n : Int) < (n : Int) + 3 := by omega
          have s5 : (n : Int) + 2 < (n : Int) + 3 := by omega
          have s6 : (0 : Int) ≤ (n : Int) := by omega
          have s7 : (0 : Int) ≤ (n : Int) + 2 := by omega
          have hN : w.heap.size + 1 < wr.heap.size ∧ g < wr.heap.size := ⟨HM.out.2.2.1.1, HM.out.2.2.2.1.1⟩
          obtain ⟨N, eN⟩ : ∃ N, wr.heap.size = N := ⟨_, rfl⟩
          rw [eN] at hN
          have hS00 := ps_of (N := N) HM.out (by omega)
          have HEN := Lib.hid eN
          clear eN
          have hS0 := ps_drew hS00
          have CA := Lib.hid (fun W (h : W.cell? ⟨g, n, none⟩ = some (.string a) ∧ W.cell? ⟨g, n + 2, none⟩ = some (.string b) ∧ PK2 w g n N a b W) => (ca W).mono (fun e w' (hh : e = Ending.returned (.int .i64 (p1 : Int)) ∧ Below W.heap.size W w') => (⟨hh.1, ps_below h hh.2, hh.2⟩ : e = Ending.returned (.int .i64 (p1 : Int)) ∧ (w'.cell? ⟨g, n, none⟩ = some (.string a) ∧ w'.cell? ⟨g, n + 2, none⟩ = some (.string b) ∧ PK2 w g n N a b w') ∧ Below W.heap.size W w')))
          have CB := Lib.hid (fun W (h : W.cell? ⟨g, n, none⟩ = some (.string a) ∧ W.cell? ⟨g, n + 2, none⟩ = some (.string b) ∧ PK2 w g n N a b W) => (cb W).mono (fun e w' (hh : e = Ending.returned (.int .i64 (p2 : Int)) ∧ Below W.heap.size W w') => (⟨hh.1, ps_below h hh.2, hh.2⟩ : e = Ending.returned (.int .i64 (p2 : Int)) ∧ (w'.cell? ⟨g, n, none⟩ = some (.string a) ∧ w'.cell? ⟨g, n + 2, none⟩ = some (.string b) ∧ PK2 w g n N a b w') ∧ Below W.heap.size W w')))
          clear ca cb
          go_wp2_with fail
          go_region_held3 (fun w' => w'.cell? ⟨g, n, none⟩ = some (.string a) ∧ w'.cell? ⟨g, n + 2, none⟩ = some (.string b) ∧ PK2 w g n N a b w')
            (first
              | with_reducible exact hS0
              | with_reducible assumption
              | (with_reducible refine ps_alloc ?_; with_reducible assumption)
              | (with_reducible refine ps_drew ?_; with_reducible refine ps_alloc ?_; with_reducible exact hS00)
              | (with_reducible refine ps_set4 hN ?_ ?_; (first | omega | (have := HEN.out; omega) | (have := HEN.out; simp; omega)); with_reducible assumption))
            (first
              | (go_at_call 83; (with_reducible refine (CA.out _ ?_).mono ?_); (with_reducible assumption); rintro e w3 ⟨rfl, hS3, hB3⟩; obtain ⟨hc3, hf3⟩ := bcell hB3; have hz3 := hB3.size; (try simp at hz3); (first | (have q3 := BoxF.below (w := (wr.alloc (.cells #[.int .i64 0, .int .i64 0, .int .i64 0, .int .i64 0] 33 (0, 0))).drew) (BoxF.new wr [.int .i64 0, .int .i64 0, .int .i64 0, .int .i64 0] 33) hB3; obtain ⟨i0, i1, i2, i3, iF⟩ := q3.four) | (have q3 := BoxF.below q4 hB3; obtain ⟨i0, i1, i2, i3, iF⟩ := q3.four) | skip))
              | (go_at_call 83; (with_reducible refine (CB.out _ ?_).mono ?_); (with_reducible assumption); rintro e w4 ⟨rfl, hS4, hB4⟩; obtain ⟨hc4, hf4⟩ := bcell hB4; have hz4 := hB4.size; (try simp at hz4); (first | (have q4 := BoxF.below (w := (wr.alloc (.cells #[.int .i64 0, .int .i64 0, .int .i64 0, .int .i64 0] 33 (0, 0))).drew) (BoxF.new wr [.int .i64 0, .int .i64 0, .int .i64 0, .int .i64 0] 33) hB4; obtain ⟨j0, j1, j2, j3, jF⟩ := q4.four) | (have q4 := BoxF.below q3 hB4; obtain ⟨j0, j1, j2, j3, jF⟩ := q4.four) | skip)))
          · rename_i hh
            have hbx := BoxF.new w4 [.int .i64 (k : Int), .int .i64 (m : Int), .int .i64 (p1 : Int), .int .i64 (p2 : Int)] 33
            have HP := Lib.hid hh.2.2.1
            clear hh hS3 hB3 hc3 hf3 hz3 hS4 hB4 hc4 hf4 hz4 hS0 hS00
            generalize w4.heap.size = c at *
            generalize w4.alloc (.cells #[.int .i64 (k : Int), .int .i64 (m : Int), .int .i64 (p1 : Int), .int .i64 (p2 : Int)] 33 (0, 0)) = W at *
            have HX := Lib.hid hbx
            clear hbx
            obtain ⟨x0, x1, x2, x3, xf⟩ := HX.out.four
            clear q1 q2 s1 s2 s1b s2b s3 s4 s5 s6 s7 hN CA CB HEN
            by_cases hok : FOk (k : Int) (m : Int) (p1 : Int) (p2 : Int)
            · have cg := fun W => l3Good_yes (k : Int) (m : Int) (p1 : Int) (p2 : Int) W hok
              have ct := fun W => l3Text_valid (k : Int) (m : Int) (p1 : Int) (p2 : Int) W hok
              rw [show (k : Int).toNat = k by omega, show (m : Int).toNat = m by omega, show ((p1 : Int) - 1).toNat = p1 - 1 by omega, show ((p2 : Int) - 1).toNat = p2 - 1 by omega] at ct
              by_cases hts : textN k m (p1 - 1) (p2 - 1) = s
              · obtain ⟨e1, e2⟩ := (HT.out k m hk1 hlt hml).1 ⟨hok, hts⟩
                rw [hts] at ct
                have CG := Lib.hid cg
                have CT := Lib.hid ct
                have HE := Lib.hid (And.intro e1 e2)
                clear cg ct hts hok e1 e2
                go_wp2_with fail
                refine (CG.out _).mono ?_
                rintro e w5 ⟨rfl, hb5⟩
                have X5 := Lib.hid (HX.out.below hb5)
                have P5 := Lib.hid (HP.out.below hb5)
                obtain ⟨y0, y1, y2, y3, yf⟩ := X5.out.four
                clear hb5 HX HP x0 x1 x2 x3 xf
                go_wp2_with fail
                refine (CT.out _).mono ?_
                rintro e w6 ⟨rfl, hb6⟩
                have X6 := X5.out.below hb6
                have P6 := Lib.hid (P5.out.below hb6)
                clear hb6 y0 y1 y2 y3 yf X5 P5
                obtain ⟨y0, y1, y2, y3, yf⟩ := X6.four
                have r0 := P6.out.1.2 0 _ rfl
                have r1 := P6.out.1.2 1 _ rfl
                have r2 := P6.out.1.2 2 _ rfl
                have r3 := P6.out.1.2 3 _ rfl
                have rf := P6.out.2.1
                clear X6
                go_wp2_with fail
                refine bodyPost_ret (v := .tuple #[.agg #[.int .i64 (k : Int), .int .i64 (m : Int), .int .i64 (p1 : Int), .int .i64 (p2 : Int)], .bool true]) (by simp [results, Tryd.results114, go_sem, r0, r1, r2, r3]) rfl ?_
                obtain ⟨rfl, rfl⟩ := HE.out
                exact parseAns_hit hlt ⟨rfl, P6.out.2.2.2.2.grown (grown4 w6 w.heap.size _ _ _ _) P6.out.2.2.2.2.size (fun k hk => by cases hk; exact Nat.le_refl _)⟩
              · have hno : ¬ (k = dt ∧ m = lt) := fun e => hts ((HT.out k m hk1 hlt hml).2 e).2
                have hne := str_ne hts
                generalize textN k m (p1 - 1) (p2 - 1) = t at *
                have CG := Lib.hid cg
                have CT := Lib.hid ct
                clear cg ct hok hts
                go_wp2_with fail
                refine (CG.out _).mono ?_
                rintro e w5 ⟨rfl, hb5⟩
                have X5 := Lib.hid (HX.out.below hb5)
                have P5 := Lib.hid (HP.out.below hb5)
                obtain ⟨y0, y1, y2, y3, yf⟩ := X5.out.four
                clear hb5 HX HP x0 x1 x2 x3 xf
                go_wp2_with fail
                refine (CT.out _).mono ?_
                rintro e w6 ⟨rfl, hb6⟩
                have P6 := Lib.hid (P5.out.below hb6)
                clear hb6 y0 y1 y2 y3 yf X5 P5
                go_wp2_with fail
                go_roundw
                case rel => exact ⟨m + 1, by omega, by omega, by go_num, P6⟩
                case measure => simp [intOf]; omega
            · have hno : ¬ (k = dt ∧ m = lt) := fun e => hok ((HT.out k m hk1 hlt hml).2 e).1
              have cg := fun W => l3Good_no (k : Int) (m : Int) (p1 : Int) (p2 : Int) W hok
              have CG := Lib.hid cg
              clear cg hok
              go_wp2_with fail
              refine (CG.out _).mono ?_
              rintro e w5 ⟨rfl, hb5⟩
              have P5 := Lib.hid (HP.out.below hb5)
              clear hb5 HX HP x0 x1 x2 x3 xf
              go_wp2_with fail
              go_roundw
              case rel => exact ⟨m + 1, by omega, by omega, by go_num, P5⟩
              case measure => simp [intOf]; omega
          · rename_i hh
            have hbx := (((((BoxF.new w3 [.int .i64 0, .int .i64 0, .int .i64 0, .int .i64 0] 33).below hB4).set 0 (.int .i64 (k : Int))).set 1 (.int .i64 (m : Int))).set 2 (.int .i64 (p1 : Int))).set 3 (.int .i64 (p2 : Int))
            simp only [List.set_cons_succ, List.set_cons_zero] at hbx
            have HP := Lib.hid hh.2.2.1
            clear hh hS3 hB3 hc3 hf3 hz3 hS4 hB4 hc4 hf4 hz4 hS0 hS00
            generalize w3.heap.size = c at *
            generalize (((w4.setCell ⟨c, 0, none⟩ (.int .i64 (k : Int))).setCell ⟨c, 1, none⟩ (.int .i64 (m : Int))).setCell ⟨c, 2, none⟩ (.int .i64 (p1 : Int))).setCell ⟨c, 3, none⟩ (.int .i64 (p2 : Int)) = W at *
            have HX := Lib.hid hbx
            clear hbx
            obtain ⟨x0, x1, x2, x3, xf⟩ := HX.out.four
            clear q1 q2 s1 s2 s1b s2b s3 s4 s5 s6 s7 hN CA CB HEN
            by_cases hok : FOk (k : Int) (m : Int) (p1 : Int) (p2 : Int)
            · have cg := fun W => l3Good_yes (k : Int) (m : Int) (p1 : Int) (p2 : Int) W hok
              have ct := fun W => l3Text_valid (k : Int) (m : Int) (p1 : Int) (p2 : Int) W hok
              rw [show (k : Int).toNat = k by omega, show (m : Int).toNat = m by omega, show ((p1 : Int) - 1).toNat = p1 - 1 by omega, show ((p2 : Int) - 1).toNat = p2 - 1 by omega] at ct
              by_cases hts : textN k m (p1 - 1) (p2 - 1) = s
              · obtain ⟨e1, e2⟩ := (HT.out k m hk1 hlt hml).1 ⟨hok, hts⟩
                rw [hts] at ct
                have CG := Lib.hid cg
                have CT := Lib.hid ct
                have HE := Lib.hid (And.intro e1 e2)
                clear cg ct hts hok e1 e2
                go_wp2_with fail
                refine (CG.out _).mono ?_
                rintro e w5 ⟨rfl, hb5⟩
                have X5 := Lib.hid (HX.out.below hb5)
                have P5 := Lib.hid (HP.out.below hb5)
                obtain ⟨y0, y1, y2, y3, yf⟩ := X5.out.four
                clear hb5 HX HP x0 x1 x2 x3 xf
                go_wp2_with fail
                refine (CT.out _).mono ?_
                rintro e w6 ⟨rfl, hb6⟩
                have X6 := X5.out.below hb6
                have P6 := Lib.hid (P5.out.below hb6)
                clear hb6 y0 y1 y2 y3 yf X5 P5
                obtain ⟨y0, y1, y2, y3, yf⟩ := X6.four
                have r0 := P6.out.1.2 0 _ rfl
                have r1 := P6.out.1.2 1 _ rfl
                have r2 := P6.out.1.2 2 _ rfl
                have r3 := P6.out.1.2 3 _ rfl
                have rf := P6.out.2.1
                clear X6
                go_wp2_with fail
                refine bodyPost_ret (v := .tuple #[.agg #[.int .i64 (k : Int), .int .i64 (m : Int), .int .i64 (p1 : Int), .int .i64 (p2 : Int)], .bool true]) (by simp [results, Tryd.results114, go_sem, r0, r1, r2, r3]) rfl ?_
                obtain ⟨rfl, rfl⟩ := HE.out
                exact parseAns_hit hlt ⟨rfl, P6.out.2.2.2.2.grown (grown4 w6 w.heap.size _ _ _ _) P6.out.2.2.2.2.size (fun k hk => by cases hk; exact Nat.le_refl _)⟩
              · have hno : ¬ (k = dt ∧ m = lt) := fun e => hts ((HT.out k m hk1 hlt hml).2 e).2
                have hne := str_ne hts
                generalize textN k m (p1 - 1) (p2 - 1) = t at *
                have CG := Lib.hid cg
                have CT := Lib.hid ct
                clear cg ct hok hts
                go_wp2_with fail
                refine (CG.out _).mono ?_
                rintro e w5 ⟨rfl, hb5⟩
                have X5 := Lib.hid (HX.out.below hb5)
                have P5 := Lib.hid (HP.out.below hb5)
                obtain ⟨y0, y1, y2, y3, yf⟩ := X5.out.four
                clear hb5 HX HP x0 x1 x2 x3 xf
                go_wp2_with fail
                refine (CT.out _).mono ?_
                rintro e w6 ⟨rfl, hb6⟩
                have P6 := Lib.hid (P5.out.below hb6)
                clear hb6 y0 y1 y2 y3 yf X5 P5
                go_wp2_with fail
                go_roundw
                case rel => exact ⟨m + 1, by omega, by omega, by go_num, P6⟩
                case measure => simp [intOf]; omega
            · have hno : ¬ (k = dt ∧ m = lt) := fun e => hok ((HT.out k m hk1 hlt hml).2 e).1
              have cg := fun W => l3Good_no (k : Int) (m : Int) (p1 : Int) (p2 : Int) W hok
              have CG := Lib.hid cg
              clear cg hok
              go_wp2_with fail
              refine (CG.out _).mono ?_
              rintro e w5 ⟨rfl, hb5⟩
              have P5 := Lib.hid (HP.out.below hb5)
              clear hb5 HX HP x0 x1 x2 x3 xf
              go_wp2_with fail
              go_roundw
              case rel => exact ⟨m + 1, by omega, by omega, by go_num, P5⟩
              case measure => simp [intOf]; omega
          · rename_i hh
            have hbx := (((q4.set 0 (.int .i64 (k : Int))).set 1 (.int .i64 (m : Int))).set 2 (.int .i64 (p1 : Int))).set 3 (.int .i64 (p2 : Int))
            simp only [List.set_cons_succ, List.set_cons_zero] at hbx
            have HP := Lib.hid hh.2.2.1
            clear hh hS3 hB3 hc3 hf3 hz3 hS4 hB4 hc4 hf4 hz4 hS0 hS00 q3 q4 i0 i1 i2 i3 iF j0 j1 j2 j3 jF
            generalize wr.heap.size = c at *
            generalize (((w4.setCell ⟨c, 0, none⟩ (.int .i64 (k : Int))).setCell ⟨c, 1, none⟩ (.int .i64 (m : Int))).setCell ⟨c, 2, none⟩ (.int .i64 (p1 : Int))).setCell ⟨c, 3, none⟩ (.int .i64 (p2 : Int)) = W at *
            have HX := Lib.hid hbx
            clear hbx
            obtain ⟨x0, x1, x2, x3, xf⟩ := HX.out.four
            clear q1 q2 s1 s2 s1b s2b s3 s4 s5 s6 s7 hN CA CB HEN
            by_cases hok : FOk (k : Int) (m : Int) (p1 : Int) (p2 : Int)
            · have cg := fun W => l3Good_yes (k : Int) (m : Int) (p1 : Int) (p2 : Int) W hok
              have ct := fun W => l3Text_valid (k : Int) (m : Int) (p1 : Int) (p2 : Int) W hok
              rw [show (k : Int).toNat = k by omega, show (m : Int).toNat = m by omega, show ((p1 : Int) - 1).toNat = p1 - 1 by omega, show ((p2 : Int) - 1).toNat = p2 - 1 by omega] at ct
              by_cases hts : textN k m (p1 - 1) (p2 - 1) = s
              · obtain ⟨e1, e2⟩ := (HT.out k m hk1 hlt hml).1 ⟨hok, hts⟩
                rw [hts] at ct
                have CG := Lib.hid cg
                have CT := Lib.hid ct
                have HE := Lib.hid (And.intro e1 e2)
                clear cg ct hts hok e1 e2
                go_wp2_with fail
                refine (CG.out _).mono ?_
                rintro e w5 ⟨rfl, hb5⟩
                have X5 := Lib.hid (HX.out.below hb5)
                have P5 := Lib.hid (HP.out.below hb5)
                obtain ⟨y0, y1, y2, y3, yf⟩ := X5.out.four
                clear hb5 HX HP x0 x1 x2 x3 xf
                go_wp2_with fail
                refine (CT.out _).mono ?_
                rintro e w6 ⟨rfl, hb6⟩
                have X6 := X5.out.below hb6
                have P6 := Lib.hid (P5.out.below hb6)
                clear hb6 y0 y1 y2 y3 yf X5 P5
                obtain ⟨y0, y1, y2, y3, yf⟩ := X6.four
                have r0 := P6.out.1.2 0 _ rfl
                have r1 := P6.out.1.2 1 _ rfl
                have r2 := P6.out.1.2 2 _ rfl
                have r3 := P6.out.1.2 3 _ rfl
                have rf := P6.out.2.1
                clear X6
                go_wp2_with fail
                refine bodyPost_ret (v := .tuple #[.agg #[.int .i64 (k : Int), .int .i64 (m : Int), .int .i64 (p1 : Int), .int .i64 (p2 : Int)], .bool true]) (by simp [results, Tryd.results114, go_sem, r0, r1, r2, r3]) rfl ?_
                obtain ⟨rfl, rfl⟩ := HE.out
                exact parseAns_hit hlt ⟨rfl, P6.out.2.2.2.2.grown (grown4 w6 w.heap.size _ _ _ _) P6.out.2.2.2.2.size (fun k hk => by cases hk; exact Nat.le_refl _)⟩
              · have hno : ¬ (k = dt ∧ m = lt) := fun e => hts ((HT.out k m hk1 hlt hml).2 e).2
                have hne := str_ne hts
                generalize textN k m (p1 - 1) (p2 - 1) = t at *
                have CG := Lib.hid cg
                have CT := Lib.hid ct
                clear cg ct hok hts
                go_wp2_with fail
                refine (CG.out _).mono ?_
                rintro e w5 ⟨rfl, hb5⟩
                have X5 := Lib.hid (HX.out.below hb5)
                have P5 := Lib.hid (HP.out.below hb5)
                obtain ⟨y0, y1, y2, y3, yf⟩ := X5.out.four
                clear hb5 HX HP x0 x1 x2 x3 xf
                go_wp2_with fail
                refine (CT.out _).mono ?_
                rintro e w6 ⟨rfl, hb6⟩
                have P6 := Lib.hid (P5.out.below hb6)
                clear hb6 y0 y1 y2 y3 yf X5 P5
                go_wp2_with fail
                go_roundw
                case rel => exact ⟨m + 1, by omega, by omega, by go_num, P6⟩
                case measure => simp [intOf]; omega
            · have hno : ¬ (k = dt ∧ m = lt) := fun e => hok ((HT.out k m hk1 hlt hml).2 e).1
              have cg := fun W => l3Good_no (k : Int) (m : Int) (p1 : Int) (p2 : Int) W hok
              have CG := Lib.hid cg
              clear cg hok
              go_wp2_with fail
              refine (CG.out _).mono ?_
              rintro e w5 ⟨rfl, hb5⟩
              have P5 := Lib.hid (HP.out.below hb5)
              clear hb5 HX HP x0 x1 x2 x3 xf
              go_wp2_with fail
              go_roundw
              case rel => exact ⟨m + 1, by omega, by omega, by go_num, P5⟩
              case measure => simp [intOf]; omega
        · have hk' : k < dt := by omega
          obtain rfl : m = 5 := by omega
          clear ca cb
          go_wp2_with fail
          go_roundw
          case rel => exact ⟨k + 1, by omega, by omega, by omega, by go_num, HM⟩
          case measure => simp [intOf]; omega
    · obtain rfl : k = 8 := by omega
      have r0 := HK.out.1.2 0 _ rfl
      have r1 := HK.out.1.2 1 _ rfl
      have r2 := HK.out.1.2 2 _ rfl
      have r3 := HK.out.1.2 3 _ rfl
      have rf := HK.out.2.1
      have y0 := HK.out.2.2.1.2 0 _ rfl
      have y1 := HK.out.2.2.1.2 1 _ rfl
      have y2 := HK.out.2.2.1.2 2 _ rfl
      have y3 := HK.out.2.2.1.2 3 _ rfl
      clear ca cb
      go_wp2_with fail
      refine bodyPost_ret (v := .tuple #[.agg #[.int .i64 0, .int .i64 0, .int .i64 0, .int .i64 0], .bool false]) (by simp [results, Tryd.results114, go_sem, r0, r1, r2, r3]) rfl ?_
      exact parseAns_miss (by omega) ⟨rfl, HK.out.2.2.2.2.grown (grown4 wr w.heap.size _ _ _ _) HK.out.2.2.2.2.size (fun k hk => by cases hk; exact Nat.le_refl _)⟩
end Go.Proofs.YtgeidnnjljpdkaaDoor
namespace Go.Proofs.YtgeidnnjljpdkaaDoor
open Go.RowKit

/-- Valid fields with one text are one. -/
theorem text_one {d l f x d' l' f' x' : Int} (h : FOk d l f x) (h' : FOk d' l' f' x') (he : textN d.toNat l.toNat (f - 1).toNat (x - 1).toNat = textN d'.toNat l'.toNat (f' - 1).toNat (x' - 1).toNat) : d = d' ∧ l = l' ∧ f = f' ∧ x = x' := by
  have r1 := readP_valid h
  have r2 := readP_valid h'
  rw [he, r2] at r1
  simp only [Prod.mk.injEq] at r1
  obtain ⟨⟨_, _⟩, ⟨_, _⟩, ⟨_, _⟩, hx⟩ := h
  obtain ⟨⟨_, _⟩, ⟨_, _⟩, ⟨_, _⟩, hx'⟩ := h'
  have h0 : 0 ≤ x := by rcases hx with ⟨_, _, h⟩ | ⟨_, h, _⟩ <;> omega
  have h0' : 0 ≤ x' := by rcases hx' with ⟨_, _, h⟩ | ⟨_, h, _⟩ <;> omega
  omega
theorem isParse_one {s : ByteArray} {p q : Nat} (hp : IsParse 9 s p) (hq : IsParse 9 s q) (h : 1 ≤ p) : p = q := by
  rcases hp with ⟨rfl, _⟩ | ⟨h1, h2, h3⟩
  · omega
  · have := isParse_hit (by omega) hq (i := p - 1) (by omega) h3
    omega
/-- A divided field's text. -/
theorem isF_of {s : ByteArray} {d l f x : Int} (h : FOk d l f x) (h0 : d ≠ 0) (ht : textN d.toNat l.toNat (f - 1).toNat (x - 1).toNat = s) : IsF s d.toNat l.toNat (f - 1).toNat (x - 1).toNat := by
  obtain ⟨⟨_, _⟩, ⟨_, _⟩, ⟨_, _⟩, hx⟩ := h
  rcases hx with ⟨e, _⟩ | ⟨_, hx, hne⟩
  · exact absurd e h0
  · exact ⟨by omega, by omega, by omega, by omega, ht⟩
theorem plain_text {s : ByteArray} {d l f x : Int} (h : FOk d l f x) (h0 : d = 0) (ht : textN d.toNat l.toNat (f - 1).toNat (x - 1).toNat = s) : 1 ≤ f ∧ f ≤ 9 ∧ wordN (f - 1).toNat = s := by
  subst h0
  refine ⟨h.2.2.1.1, h.2.2.1.2, ?_⟩
  rw [← ht]
  unfold textN
  rw [if_pos (show (0 : Int).toNat = 0 from rfl)]
theorem l3Parse_same (s : ByteArray) (hs : s.size ≤ 1048576) {d l f x : Int} {ok : Bool} (h : PAns s d l f x ok) (w : World) :
    Calls Tryd.prog 114 #[.string s] w (AnsF w d l f x ok) := by
  obtain ⟨p, hp⟩ := isParse_ex s 9
  rcases Nat.eq_zero_or_pos p with h0 | h0
  · subst h0
    -- no plain field has this text
    have hnp : ∀ {d l f x : Int}, FOk d l f x → textN d.toNat l.toNat (f - 1).toNat (x - 1).toNat = s → d ≠ 0 := fun hf ht e => by
      obtain ⟨a1, a2, a3⟩ := plain_text hf e ht
      have := isParse_hit (by omega) hp (i := (_ - 1 : Int).toNat) (by omega) a3
      omega
    by_cases hsh : 60 < s.size ∨ (splitL 32 s.data.toList).length < 4
    · have c := l3Parse_short s hs hp hsh w
      rcases h with ⟨_, hf, ht⟩ | ⟨rfl, ⟨rfl, rfl, rfl, rfl⟩, _⟩
      · exfalso
        have hF := isF_of hf (hnp hf ht) ht
        have := (isF_size hF).2
        obtain ⟨hs', h1, h2⟩ := isF_words hF
        rcases hsh with h3 | h3
        · omega
        · rw [h2] at h3
          simp at h3
          omega
      · exact c
    · have hs60 : s.size ≤ 60 := by omega
      obtain ⟨n, hn⟩ : ∃ n, (splitL 32 s.data.toList).length = n + 3 := ⟨(splitL 32 s.data.toList).length - 3, by omega⟩
      have hn1 : 1 ≤ n := by omega
      obtain ⟨la, hla⟩ : ∃ la, (splitL 32 s.data.toList)[n]? = some la := ⟨_, List.getElem?_eq_getElem (by omega)⟩
      obtain ⟨lb, hlb⟩ : ∃ lb, (splitL 32 s.data.toList)[n + 2]? = some lb := ⟨_, List.getElem?_eq_getElem (by omega)⟩
      obtain ⟨p1, hp1⟩ := isParse_ex ⟨la.toArray⟩ 9
      obtain ⟨p2, hp2⟩ := isParse_ex ⟨lb.toArray⟩ 9
      -- a divided field with this text has these two words
      have words : ∀ {d l f x : Int}, FOk d l f x → textN d.toNat l.toNat (f - 1).toNat (x - 1).toNat = s → f = p1 ∧ x = p2 := fun {d l f x} hf ht => by
        have hd0 := hnp hf ht
        have hF := isF_of hf hd0 ht
        obtain ⟨hs', h1, h2⟩ := isF_words hF
        rw [h2] at hn hla hlb
        have hl : hs'.length = n := by simp at hn; omega
        rw [List.getElem?_append_right (by omega)] at hla hlb
        rw [show n - hs'.length = 0 by omega] at hla
        rw [show n + 2 - hs'.length = 2 by omega] at hlb
        have ja : (wordN (f - 1).toNat).data.toList = la := Option.some.inj hla
        have jb : (wordN (x - 1).toNat).data.toList = lb := Option.some.inj hlb
        have ea : wordN (f - 1).toNat = ⟨la.toArray⟩ := by rw [← ja, strOf_bytes]
        have eb : wordN (x - 1).toNat = ⟨lb.toArray⟩ := by rw [← jb, strOf_bytes]
        have g1 := isParse_hit (by omega) hp1 (i := (f - 1).toNat) hF.2.2.1.1 ea
        have g2 := isParse_hit (by omega) hp2 (i := (x - 1).toNat) hF.2.2.1.2 eb
        obtain ⟨⟨_, _⟩, ⟨_, _⟩, ⟨_, _⟩, hx⟩ := hf
        have hx1 : 1 ≤ x := by rcases hx with ⟨e, _⟩ | ⟨_, h, _⟩; exact absurd e hd0; exact h.1
        omega
      rcases h with ⟨rfl, hf, ht⟩ | ⟨rfl, ⟨rfl, rfl, rfl, rfl⟩, hno⟩
      · obtain ⟨rfl, rfl⟩ := words hf ht
        have hd0 := hnp hf ht
        have hdd := hf.1
        have hll := hf.2.1
        obtain ⟨dt, rfl⟩ : ∃ dt : Nat, d = (dt : Int) := ⟨d.toNat, by omega⟩
        obtain ⟨lt, rfl⟩ : ∃ lt : Nat, l = (lt : Int) := ⟨l.toNat, by omega⟩
        have e1 : ((p1 : Int) - 1).toNat = p1 - 1 := by omega
        have e2 : ((p2 : Int) - 1).toNat = p2 - 1 := by omega
        rw [show (dt : Int).toNat = dt by omega, show (lt : Int).toNat = lt by omega, e1, e2] at ht
        have c := l3Parse_loop s ⟨la.toArray⟩ ⟨lb.toArray⟩ hs60 hp n hn1 hn (by rw [hla]) (by rw [hlb]) p1 p2 hp1 hp2 dt lt (by omega) (by omega) (fun d' l' _ _ _ => by
          constructor
          · rintro ⟨hf', ht'⟩
            have := text_one hf' hf (by rw [show (d' : Int).toNat = d' by omega, show (l' : Int).toNat = l' by omega, show (dt : Int).toNat = dt by omega, show (lt : Int).toNat = lt by omega, e1, e2, ht, ht'])
            omega
          · rintro ⟨rfl, rfl⟩
            exact ⟨hf, ht⟩) w
        refine c.mono fun e w' hh => ?_
        unfold ParseAns at hh
        rw [if_pos (by omega)] at hh
        exact hh
      · have c := l3Parse_loop s ⟨la.toArray⟩ ⟨lb.toArray⟩ hs60 hp n hn1 hn (by rw [hla]) (by rw [hlb]) p1 p2 hp1 hp2 8 0 (by omega) (by omega) (fun d' l' _ _ _ => by
          constructor
          · rintro ⟨hf', ht'⟩
            exact absurd (by rw [show (d' : Int).toNat = d' by omega, show (l' : Int).toNat = l' by omega, show ((p1 : Int) - 1).toNat = p1 - 1 by omega, show ((p2 : Int) - 1).toNat = p2 - 1 by omega]; exact ht') (hno d' l' p1 p2 hf')
          · rintro ⟨rfl, _⟩
            omega) w
        refine c.mono fun e w' hh => ?_
        unfold ParseAns at hh
        rw [if_neg (by omega)] at hh
        exact hh
  · have hp' := hp
    rcases hp with ⟨e, _⟩ | ⟨h1, h2, h3⟩
    · omega
    · have hf : FOk 0 0 (p : Int) 0 := ⟨by omega, by omega, by omega, .inl ⟨rfl, rfl, rfl⟩⟩
      have ht : textN (0 : Int).toNat (0 : Int).toNat ((p : Int) - 1).toNat ((0 : Int) - 1).toNat = s := by
        rw [show ((p : Int) - 1).toNat = p - 1 by omega, ← h3]
        rfl
      rcases h with ⟨rfl, hf', ht'⟩ | ⟨_, _, hno⟩
      · obtain ⟨rfl, rfl, rfl, rfl⟩ := text_one hf' hf (by rw [ht', ht])
        exact l3Parse_plain s hs p h1 hp' w
      · exact absurd ht (hno _ _ _ _ hf)
end Go.Proofs.YtgeidnnjljpdkaaDoor
