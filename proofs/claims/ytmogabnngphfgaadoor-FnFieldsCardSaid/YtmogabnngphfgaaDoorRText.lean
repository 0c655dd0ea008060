/- Contracts: the program's text of a field. -/
import Derived.Test.YtmogabnngphfgaaDoorRFields
import Derived.Test.YtmogabnngphfgaaDoorWords3
import Derived.Test.YtmogabnngphfgaaDoorBuildW
namespace Go.Proofs.YtmogabnngphfgaaDoor
open Go.RowKit

/-- The builder at block b holds these bytes. -/
def Bd (b : Nat) (l : List UInt8) (w : World) : Prop := Lib.IsBuilder 46 5 b b (Lib.byteCells l) w
theorem Bd.size {b : Nat} {l : List UInt8} {w : World} (h : Bd b l w) : b ≤ w.heap.size := by
  rcases h with h | h <;> exact Nat.le_of_lt h.lt
theorem bd_fresh (w : World) : Bd w.heap.size [] (w.alloc (.cells #[.pointer none, .slice none 0 0] 46)) := Lib.fresh_isBuilder 46 5 w
theorem wb (b : Nat) (l : List UInt8) (w : World) (h : Bd b l w) (hl : l.length ≤ 1000) :
    Calls Tryd.prog 22 #[.pointer (some ⟨b, 0, none⟩), .int .u8 32] w fun e w' => e = .returned .nilIface ∧ Bd b (l ++ [32]) w' ∧ Below b w w' := by
  refine (writeByte_any b b _ 32 w h (by rw [Lib.byteCells_length]; omega) h.size).mono ?_
  rintro e w' ⟨rfl, h1, h2⟩
  refine ⟨rfl, ?_, h2⟩
  unfold Bd
  rw [show Lib.byteCells (l ++ [32]) = Lib.byteCells l ++ [.int .u8 32] by simp [Lib.byteCells]]
  exact h1
theorem ws (b : Nat) (l : List UInt8) (s : ByteArray) (w : World) (h : Bd b l w) (hl : l.length ≤ 1000) (hs : s.size ≤ 1000) :
    Calls Tryd.prog 21 #[.pointer (some ⟨b, 0, none⟩), .string s] w fun e w' => e = .returned (.tuple #[.int .i64 s.size, .nilIface]) ∧ Bd b (l ++ s.data.toList) w' ∧ Below b w w' := by
  refine (writeString_any b b _ s w h (by rw [Lib.byteCells_length]; omega) h.size).mono ?_
  rintro e w' ⟨rfl, h1, h2⟩
  refine ⟨rfl, ?_, h2⟩
  unfold Bd
  rw [show Lib.byteCells (l ++ s.data.toList) = Lib.byteCells l ++ Lib.strCells s by simp [Lib.byteCells, Lib.strCells_eq]]
  exact h1
theorem bstr (b : Nat) (l : List UInt8) (w : World) (h : Bd b l w) :
    Calls Tryd.prog 23 #[.pointer (some ⟨b, 0, none⟩)] w fun e w' => e = .returned (.string ⟨l.toArray⟩) ∧ Below b w w' := Tryd.Builder_String_any b b l w h h.size
/-- What every write keeps: the field's box, the tables, and all that was there. -/
def FK (w : World) (b : Nat) (L : List Value) (W : World) : Prop := (w.heap.size < b ∧ TabsLie w) ∧ Box W w.heap.size L ∧ Below w.heap.size w W
theorem FK.next {w W W' : World} {b : Nat} {L : List Value} (h : FK w b L W) (hb : Below b W W') : FK w b L W' :=
  ⟨h.1, ⟨Nat.lt_of_lt_of_le h.2.1.1 hb.size, fun i v hv => (hb.cell (p := ⟨w.heap.size, i, none⟩) h.1.1).trans (h.2.1.2 i v hv)⟩, h.2.2.trans (hb.mono (Nat.le_of_lt h.1.1))⟩
theorem FK.tabs {w W : World} {b : Nat} {L : List Value} (h : FK w b L W) : TabsLie W := h.1.2.below h.2.2

set_option maxHeartbeats 4000000 in
theorem fieldText_plain (i : Nat) (w : World) (hi : i < 9) (hT : TabsLie w) :
    Calls Tryd.prog 8 #[.agg #[.int .i64 0, .int .i64 0, .int .i64 ((i : Int) + 1), .int .i64 0]] w fun e w' => e = .returned (.tuple #[.string ⟨([] ++ (wordN i).data.toList).toArray⟩, .bool true]) ∧ Below w.heap.size w w' := by
  have cv := fun W => validField_yes _ _ _ _ W (show FOk 0 0 ((i : Int) + 1) 0 from by unfold FOk; omega)
  obtain ⟨tI, hti⟩ : ∃ t, wordN i = t := ⟨_, rfl⟩
  have sI := wordN_size hi
  rw [hti] at sI ⊢
  have CV := Lib.hid cv
  have HT := Lib.hid hT
  clear cv hT
  go_enter Tryd.func8, Tryd.ntmps8
  go_wp2_with fail
  refine (CV.out _).mono ?_
  rintro e w1 ⟨rfl, hb⟩
  have hz : w.heap.size < w1.heap.size := by have := hb.size; simp at this; omega
  have X1 := (Box.new w [.int .i64 0, .int .i64 0, .int .i64 ((i : Int) + 1), .int .i64 0] 25).below hb
  have K0 : FK w w1.heap.size [.int .i64 0, .int .i64 0, .int .i64 ((i : Int) + 1), .int .i64 0] (w1.alloc (.cells #[.pointer none, .slice none 0 0] 46)) := ⟨⟨hz, HT.out⟩, X1.alloc _, (((Below.refl _ w).alloc (Nat.le_refl _) _).trans (hb.mono (by simp))).alloc (Nat.le_of_lt hz) _⟩
  have B0 := bd_fresh w1
  clear X1 hb CV HT
  have HK := Lib.hid K0
  have HB := Lib.hid B0
  clear K0 B0
  have x0 := HK.out.2.1.2 0 _ rfl
  have x1 := HK.out.2.1.2 1 _ rfl
  have x2 := HK.out.2.1.2 2 _ rfl
  have x3 := HK.out.2.1.2 3 _ rfl
  have t0 := HK.out.tabs.1 i hi
  rw [hti] at t0
  go_wp2_with fail
  refine (ws _ _ _ _ HB.out (by first | (simp; done) | (simp; omega)) (by first | omega | decide)).mono ?_
  rintro e w2 ⟨rfl, hB, hb⟩
  have HK0 := Lib.hid (HK.out.next hb)
  have HB0 := Lib.hid hB
  clear hB
  clear hb HK HB x0 x1 x2 x3 t0
  have HK := HK0
  clear HK0
  have HB := HB0
  clear HB0
  have x0 := HK.out.2.1.2 0 _ rfl
  have x1 := HK.out.2.1.2 1 _ rfl
  have x2 := HK.out.2.1.2 2 _ rfl
  have x3 := HK.out.2.1.2 3 _ rfl
  go_wp2_with fail
  refine (bstr _ _ _ HB.out).mono ?_
  rintro e w2 ⟨rfl, hb⟩
  have HK1 := Lib.hid (HK.out.next hb)
  clear hb HK HB x0 x1 x2 x3
  have HK := HK1
  clear HK1
  go_wp2_with fail
  go_ret2
  refine ⟨?_, HK.out.2.2⟩
  first
    | rfl
    | (show Ending.returned (Value.tuple #[Value.string _, Value.bool true]) = _; simp)
set_option maxHeartbeats 4000000 in
theorem fieldText_straight (k i j : Nat) (w : World) (hk : k < 7) (hi : i < 9) (hj : j < 9) (hij : i ≠ j) (hT : TabsLie w) :
    Calls Tryd.prog 8 #[.agg #[.int .i64 ((k : Int) + 1), .int .i64 0, .int .i64 ((i : Int) + 1), .int .i64 ((j : Int) + 1)]] w fun e w' => e = .returned (.tuple #[.string ⟨([] ++ (divN (k + 1)).data.toList ++ [32] ++ (wordN i).data.toList ++ [32, 97, 110, 100, 32] ++ (wordN j).data.toList).toArray⟩, .bool true]) ∧ Below w.heap.size w w' := by
  have cv := fun W => validField_yes _ _ _ _ W (show FOk ((k : Int) + 1) 0 ((i : Int) + 1) ((j : Int) + 1) from by unfold FOk; omega)
  obtain ⟨tI, hti⟩ : ∃ t, wordN i = t := ⟨_, rfl⟩
  have sI := wordN_size hi
  rw [hti] at sI ⊢
  obtain ⟨tJ, htj⟩ : ∃ t, wordN j = t := ⟨_, rfl⟩
  have sJ := wordN_size hj
  rw [htj] at sJ ⊢
  obtain ⟨tK, htk⟩ : ∃ t, divN (k + 1) = t := ⟨_, rfl⟩
  have sK := divN_size (i := k + 1) (by omega)
  rw [htk] at sK ⊢
  have ed : ((k : Int) + 1 != 0) = true := by rw [bne_iff_ne]; omega
  have CV := Lib.hid cv
  have HT := Lib.hid hT
  clear cv hT
  go_enter Tryd.func8, Tryd.ntmps8
  go_wp2_with fail
  refine (CV.out _).mono ?_
  rintro e w1 ⟨rfl, hb⟩
  have hz : w.heap.size < w1.heap.size := by have := hb.size; simp at this; omega
  have X1 := (Box.new w [.int .i64 ((k : Int) + 1), .int .i64 0, .int .i64 ((i : Int) + 1), .int .i64 ((j : Int) + 1)] 25).below hb
  have K0 : FK w w1.heap.size [.int .i64 ((k : Int) + 1), .int .i64 0, .int .i64 ((i : Int) + 1), .int .i64 ((j : Int) + 1)] (w1.alloc (.cells #[.pointer none, .slice none 0 0] 46)) := ⟨⟨hz, HT.out⟩, X1.alloc _, (((Below.refl _ w).alloc (Nat.le_refl _) _).trans (hb.mono (by simp))).alloc (Nat.le_of_lt hz) _⟩
  have B0 := bd_fresh w1
  clear X1 hb CV HT
  have HK := Lib.hid K0
  have HB := Lib.hid B0
  clear K0 B0
  have x0 := HK.out.2.1.2 0 _ rfl
  have x1 := HK.out.2.1.2 1 _ rfl
  have x2 := HK.out.2.1.2 2 _ rfl
  have x3 := HK.out.2.1.2 3 _ rfl
  have t0 := HK.out.tabs.2.1 k hk
  rw [htk] at t0
  go_wp2_with fail
  refine (ws _ _ _ _ HB.out (by first | (simp; done) | (simp; omega)) (by first | omega | decide)).mono ?_
  rintro e w2 ⟨rfl, hB, hb⟩
  have HK0 := Lib.hid (HK.out.next hb)
  have HB0 := Lib.hid hB
  clear hB
  clear hb HK HB x0 x1 x2 x3 t0
  have HK := HK0
  clear HK0
  have HB := HB0
  clear HB0
  have x0 := HK.out.2.1.2 0 _ rfl
  have x1 := HK.out.2.1.2 1 _ rfl
  have x2 := HK.out.2.1.2 2 _ rfl
  have x3 := HK.out.2.1.2 3 _ rfl
  go_wp2_with fail
  refine (wb _ _ _ HB.out (by first | (simp; done) | (simp; omega))).mono ?_
  rintro e w2 ⟨rfl, hB, hb⟩
  have HK1 := Lib.hid (HK.out.next hb)
  have HB1 := Lib.hid hB
  clear hB
  clear hb HK HB x0 x1 x2 x3
  have HK := HK1
  clear HK1
  have HB := HB1
  clear HB1
  have x0 := HK.out.2.1.2 0 _ rfl
  have x1 := HK.out.2.1.2 1 _ rfl
  have x2 := HK.out.2.1.2 2 _ rfl
  have x3 := HK.out.2.1.2 3 _ rfl
  have t0 := HK.out.tabs.1 i hi
  rw [hti] at t0
  go_wp2_with fail
  refine (ws _ _ _ _ HB.out (by first | (simp; done) | (simp; omega)) (by first | omega | decide)).mono ?_
  rintro e w2 ⟨rfl, hB, hb⟩
  have HK2 := Lib.hid (HK.out.next hb)
  have HB2 := Lib.hid hB
  clear hB
  clear hb HK HB x0 x1 x2 x3 t0
  have HK := HK2
  clear HK2
  have HB := HB2
  clear HB2
  have x0 := HK.out.2.1.2 0 _ rfl
  have x1 := HK.out.2.1.2 1 _ rfl
  have x2 := HK.out.2.1.2 2 _ rfl
  have x3 := HK.out.2.1.2 3 _ rfl
  go_wp2_with fail
  refine (ws _ _ _ _ HB.out (by first | (simp; done) | (simp; omega)) (by first | omega | decide)).mono ?_
  rintro e w2 ⟨rfl, hB, hb⟩
  have HK3 := Lib.hid (HK.out.next hb)
  have HB3 := Lib.hid hB
  clear hB
  clear hb HK HB x0 x1 x2 x3
  have HK := HK3
  clear HK3
  have HB := HB3
  clear HB3
  have x0 := HK.out.2.1.2 0 _ rfl
  have x1 := HK.out.2.1.2 1 _ rfl
  have x2 := HK.out.2.1.2 2 _ rfl
  have x3 := HK.out.2.1.2 3 _ rfl
  have t0 := HK.out.tabs.1 j hj
  rw [htj] at t0
  go_wp2_with fail
  refine (ws _ _ _ _ HB.out (by first | (simp; done) | (simp; omega)) (by first | omega | decide)).mono ?_
  rintro e w2 ⟨rfl, hB, hb⟩
  have HK4 := Lib.hid (HK.out.next hb)
  have HB4 := Lib.hid hB
  clear hB
  clear hb HK HB x0 x1 x2 x3 t0
  have HK := HK4
  clear HK4
  have HB := HB4
  clear HB4
  have x0 := HK.out.2.1.2 0 _ rfl
  have x1 := HK.out.2.1.2 1 _ rfl
  have x2 := HK.out.2.1.2 2 _ rfl
  have x3 := HK.out.2.1.2 3 _ rfl
  go_wp2_with fail
  refine (bstr _ _ _ HB.out).mono ?_
  rintro e w2 ⟨rfl, hb⟩
  have HK5 := Lib.hid (HK.out.next hb)
  clear hb HK HB x0 x1 x2 x3
  have HK := HK5
  clear HK5
  go_wp2_with fail
  go_ret2
  refine ⟨?_, HK.out.2.2⟩
  first
    | rfl
    | (show Ending.returned (Value.tuple #[Value.string _, Value.bool true]) = _; simp)
set_option maxHeartbeats 4000000 in
theorem fieldText_lined (k m i j : Nat) (w : World) (hk : k < 7) (hm : m < 4) (hi : i < 9) (hj : j < 9) (hij : i ≠ j) (hT : TabsLie w) :
    Calls Tryd.prog 8 #[.agg #[.int .i64 ((k : Int) + 1), .int .i64 ((m : Int) + 1), .int .i64 ((i : Int) + 1), .int .i64 ((j : Int) + 1)]] w fun e w' => e = .returned (.tuple #[.string ⟨([] ++ (divN (k + 1)).data.toList ++ [32] ++ (lineN (m + 1)).data.toList ++ [32] ++ (wordN i).data.toList ++ [32, 97, 110, 100, 32] ++ (wordN j).data.toList).toArray⟩, .bool true]) ∧ Below w.heap.size w w' := by
  have cv := fun W => validField_yes _ _ _ _ W (show FOk ((k : Int) + 1) ((m : Int) + 1) ((i : Int) + 1) ((j : Int) + 1) from by unfold FOk; omega)
  obtain ⟨tI, hti⟩ : ∃ t, wordN i = t := ⟨_, rfl⟩
  have sI := wordN_size hi
  rw [hti] at sI ⊢
  obtain ⟨tJ, htj⟩ : ∃ t, wordN j = t := ⟨_, rfl⟩
  have sJ := wordN_size hj
  rw [htj] at sJ ⊢
  obtain ⟨tK, htk⟩ : ∃ t, divN (k + 1) = t := ⟨_, rfl⟩
  have sK := divN_size (i := k + 1) (by omega)
  rw [htk] at sK ⊢
  obtain ⟨tM, htm⟩ : ∃ t, lineN (m + 1) = t := ⟨_, rfl⟩
  have sM := lineN_size (i := m + 1) (by omega)
  rw [htm] at sM ⊢
  have ed : ((k : Int) + 1 != 0) = true := by rw [bne_iff_ne]; omega
  have el : ((m : Int) + 1 != 0) = true := by rw [bne_iff_ne]; omega
  have CV := Lib.hid cv
  have HT := Lib.hid hT
  clear cv hT
  go_enter Tryd.func8, Tryd.ntmps8
  go_wp2_with fail
  refine (CV.out _).mono ?_
  rintro e w1 ⟨rfl, hb⟩
  have hz : w.heap.size < w1.heap.size := by have := hb.size; simp at this; omega
  have X1 := (Box.new w [.int .i64 ((k : Int) + 1), .int .i64 ((m : Int) + 1), .int .i64 ((i : Int) + 1), .int .i64 ((j : Int) + 1)] 25).below hb
  have K0 : FK w w1.heap.size [.int .i64 ((k : Int) + 1), .int .i64 ((m : Int) + 1), .int .i64 ((i : Int) + 1), .int .i64 ((j : Int) + 1)] (w1.alloc (.cells #[.pointer none, .slice none 0 0] 46)) := ⟨⟨hz, HT.out⟩, X1.alloc _, (((Below.refl _ w).alloc (Nat.le_refl _) _).trans (hb.mono (by simp))).alloc (Nat.le_of_lt hz) _⟩
  have B0 := bd_fresh w1
  clear X1 hb CV HT
  have HK := Lib.hid K0
  have HB := Lib.hid B0
  clear K0 B0
  have x0 := HK.out.2.1.2 0 _ rfl
  have x1 := HK.out.2.1.2 1 _ rfl
  have x2 := HK.out.2.1.2 2 _ rfl
  have x3 := HK.out.2.1.2 3 _ rfl
  have t0 := HK.out.tabs.2.1 k hk
  rw [htk] at t0
  go_wp2_with fail
  refine (ws _ _ _ _ HB.out (by first | (simp; done) | (simp; omega)) (by first | omega | decide)).mono ?_
  rintro e w2 ⟨rfl, hB, hb⟩
  have HK0 := Lib.hid (HK.out.next hb)
  have HB0 := Lib.hid hB
  clear hB
  clear hb HK HB x0 x1 x2 x3 t0
  have HK := HK0
  clear HK0
  have HB := HB0
  clear HB0
  have x0 := HK.out.2.1.2 0 _ rfl
  have x1 := HK.out.2.1.2 1 _ rfl
  have x2 := HK.out.2.1.2 2 _ rfl
  have x3 := HK.out.2.1.2 3 _ rfl
  go_wp2_with fail
  refine (wb _ _ _ HB.out (by first | (simp; done) | (simp; omega))).mono ?_
  rintro e w2 ⟨rfl, hB, hb⟩
  have HK1 := Lib.hid (HK.out.next hb)
  have HB1 := Lib.hid hB
  clear hB
  clear hb HK HB x0 x1 x2 x3
  have HK := HK1
  clear HK1
  have HB := HB1
  clear HB1
  have x0 := HK.out.2.1.2 0 _ rfl
  have x1 := HK.out.2.1.2 1 _ rfl
  have x2 := HK.out.2.1.2 2 _ rfl
  have x3 := HK.out.2.1.2 3 _ rfl
  have t0 := HK.out.tabs.2.2 m hm
  rw [htm] at t0
  go_wp2_with fail
  refine (ws _ _ _ _ HB.out (by first | (simp; done) | (simp; omega)) (by first | omega | decide)).mono ?_
  rintro e w2 ⟨rfl, hB, hb⟩
  have HK2 := Lib.hid (HK.out.next hb)
  have HB2 := Lib.hid hB
  clear hB
  clear hb HK HB x0 x1 x2 x3 t0
  have HK := HK2
  clear HK2
  have HB := HB2
  clear HB2
  have x0 := HK.out.2.1.2 0 _ rfl
  have x1 := HK.out.2.1.2 1 _ rfl
  have x2 := HK.out.2.1.2 2 _ rfl
  have x3 := HK.out.2.1.2 3 _ rfl
  go_wp2_with fail
  refine (wb _ _ _ HB.out (by first | (simp; done) | (simp; omega))).mono ?_
  rintro e w2 ⟨rfl, hB, hb⟩
  have HK3 := Lib.hid (HK.out.next hb)
  have HB3 := Lib.hid hB
  clear hB
  clear hb HK HB x0 x1 x2 x3
  have HK := HK3
  clear HK3
  have HB := HB3
  clear HB3
  have x0 := HK.out.2.1.2 0 _ rfl
  have x1 := HK.out.2.1.2 1 _ rfl
  have x2 := HK.out.2.1.2 2 _ rfl
  have x3 := HK.out.2.1.2 3 _ rfl
  have t0 := HK.out.tabs.1 i hi
  rw [hti] at t0
  go_wp2_with fail
  refine (ws _ _ _ _ HB.out (by first | (simp; done) | (simp; omega)) (by first | omega | decide)).mono ?_
  rintro e w2 ⟨rfl, hB, hb⟩
  have HK4 := Lib.hid (HK.out.next hb)
  have HB4 := Lib.hid hB
  clear hB
  clear hb HK HB x0 x1 x2 x3 t0
  have HK := HK4
  clear HK4
  have HB := HB4
  clear HB4
  have x0 := HK.out.2.1.2 0 _ rfl
  have x1 := HK.out.2.1.2 1 _ rfl
  have x2 := HK.out.2.1.2 2 _ rfl
  have x3 := HK.out.2.1.2 3 _ rfl
  go_wp2_with fail
  refine (ws _ _ _ _ HB.out (by first | (simp; done) | (simp; omega)) (by first | omega | decide)).mono ?_
  rintro e w2 ⟨rfl, hB, hb⟩
  have HK5 := Lib.hid (HK.out.next hb)
  have HB5 := Lib.hid hB
  clear hB
  clear hb HK HB x0 x1 x2 x3
  have HK := HK5
  clear HK5
  have HB := HB5
  clear HB5
  have x0 := HK.out.2.1.2 0 _ rfl
  have x1 := HK.out.2.1.2 1 _ rfl
  have x2 := HK.out.2.1.2 2 _ rfl
  have x3 := HK.out.2.1.2 3 _ rfl
  have t0 := HK.out.tabs.1 j hj
  rw [htj] at t0
  go_wp2_with fail
  refine (ws _ _ _ _ HB.out (by first | (simp; done) | (simp; omega)) (by first | omega | decide)).mono ?_
  rintro e w2 ⟨rfl, hB, hb⟩
  have HK6 := Lib.hid (HK.out.next hb)
  have HB6 := Lib.hid hB
  clear hB
  clear hb HK HB x0 x1 x2 x3 t0
  have HK := HK6
  clear HK6
  have HB := HB6
  clear HB6
  have x0 := HK.out.2.1.2 0 _ rfl
  have x1 := HK.out.2.1.2 1 _ rfl
  have x2 := HK.out.2.1.2 2 _ rfl
  have x3 := HK.out.2.1.2 3 _ rfl
  go_wp2_with fail
  refine (bstr _ _ _ HB.out).mono ?_
  rintro e w2 ⟨rfl, hb⟩
  have HK7 := Lib.hid (HK.out.next hb)
  clear hb HK HB x0 x1 x2 x3
  have HK := HK7
  clear HK7
  go_wp2_with fail
  go_ret2
  refine ⟨?_, HK.out.2.2⟩
  first
    | rfl
    | (show Ending.returned (Value.tuple #[Value.string _, Value.bool true]) = _; simp)
theorem fieldText_no (d l f s : Int) (w : World) (h : ¬ FOk d l f s) :
    Calls Tryd.prog 8 #[.agg #[.int .i64 d, .int .i64 l, .int .i64 f, .int .i64 s]] w fun e w' => e = .returned (.tuple #[.string ⟨#[]⟩, .bool false]) ∧ Below w.heap.size w w' := by
  have cv := fun W => validField_no d l f s W h
  clear h
  go_enter Tryd.func8, Tryd.ntmps8
  go_wp2_with fail
  refine (cv _).mono ?_
  rintro e w1 ⟨rfl, hb⟩
  have B := Lib.hid (((Below.refl _ w).alloc (Nat.le_refl _) _).trans (hb.mono (by simp)))
  clear hb cv
  go_wp2_with fail
  go_ret2
  exact ⟨rfl, B.out⟩
/-- A valid field: its text. -/
theorem fieldText_yes (d l f s : Int) (w : World) (h : FOk d l f s) (hT : TabsLie w) :
    Calls Tryd.prog 8 #[.agg #[.int .i64 d, .int .i64 l, .int .i64 f, .int .i64 s]] w fun e w' => e = .returned (.tuple #[.string (textN d.toNat l.toNat (f - 1).toNat (s - 1).toNat), .bool true]) ∧ Below w.heap.size w w' := by
  obtain ⟨hd, hl, hf, hs⟩ := h
  obtain ⟨i, rfl⟩ : ∃ i : Nat, f = (i : Int) + 1 := ⟨(f - 1).toNat, by omega⟩
  rw [show ((i : Int) + 1 - 1).toNat = i by omega]
  rcases hs with ⟨rfl, rfl, rfl⟩ | ⟨h0, hs, hne⟩
  · have c := fieldText_plain i w (by omega) hT
    have e : (⟨([] ++ (wordN i).data.toList).toArray⟩ : ByteArray) = textN 0 0 i 0 := by unfold textN; rw [if_pos rfl]; apply ByteArray.ext; simp
    rw [e] at c
    exact c
  · obtain ⟨j, rfl⟩ : ∃ j : Nat, s = (j : Int) + 1 := ⟨(s - 1).toNat, by omega⟩
    obtain ⟨k, rfl⟩ : ∃ k : Nat, d = (k : Int) + 1 := ⟨(d - 1).toNat, by omega⟩
    rw [show ((j : Int) + 1 - 1).toNat = j by omega, show ((k : Int) + 1).toNat = k + 1 by omega]
    by_cases h1 : l = 0
    · subst h1
      have c := fieldText_straight k i j w (by omega) (by omega) (by omega) (by omega) hT
      have e : (⟨([] ++ (divN (k + 1)).data.toList ++ [32] ++ (wordN i).data.toList ++ [32, 97, 110, 100, 32] ++ (wordN j).data.toList).toArray⟩ : ByteArray) = textN (k + 1) 0 i j := by unfold textN headN; rw [if_neg (by omega), if_pos rfl]; apply ByteArray.ext; simp
      rw [e] at c
      exact c
    · obtain ⟨m, rfl⟩ : ∃ m : Nat, l = (m : Int) + 1 := ⟨(l - 1).toNat, by omega⟩
      rw [show ((m : Int) + 1).toNat = m + 1 by omega]
      have c := fieldText_lined k m i j w (by omega) (by omega) (by omega) (by omega) (by omega) hT
      have e : (⟨([] ++ (divN (k + 1)).data.toList ++ [32] ++ (lineN (m + 1)).data.toList ++ [32] ++ (wordN i).data.toList ++ [32, 97, 110, 100, 32] ++ (wordN j).data.toList).toArray⟩ : ByteArray) = textN (k + 1) (m + 1) i j := by unfold textN headN; rw [if_neg (by omega), if_neg (by omega)]; apply ByteArray.ext; simp
      rw [e] at c
      exact c
/-- The model's text of a valid field, in the same words. -/
theorem l3Text_valid (d l f s : Int) (w : World) (h : FOk d l f s) :
    Calls Tryd.prog 29 #[.agg #[.int .i64 d, .int .i64 l, .int .i64 f, .int .i64 s]] w fun e w' => e = .returned (.string (textN d.toNat l.toNat (f - 1).toNat (s - 1).toNat)) ∧ Below w.heap.size w w' := by
  obtain ⟨hd, hl, hf, hs⟩ := h
  obtain ⟨i, rfl⟩ : ∃ i : Nat, f = (i : Int) + 1 := ⟨(f - 1).toNat, by omega⟩
  rw [show ((i : Int) + 1 - 1).toNat = i by omega]
  rcases hs with ⟨rfl, rfl, rfl⟩ | ⟨h0, hs, hne⟩
  · exact l3Text_plain 0 0 i w (by omega)
  · obtain ⟨j, rfl⟩ : ∃ j : Nat, s = (j : Int) + 1 := ⟨(s - 1).toNat, by omega⟩
    obtain ⟨k, rfl⟩ : ∃ k : Nat, d = (k : Int) := ⟨d.toNat, by omega⟩
    obtain ⟨m, rfl⟩ : ∃ m : Nat, l = (m : Int) := ⟨l.toNat, by omega⟩
    rw [show ((j : Int) + 1 - 1).toNat = j by omega]
    exact l3Text_any k m i j w (by omega) (by omega) (by omega) (by omega) (by omega)
theorem specText_yes (d l f s : Int) (w : World) (h : FOk d l f s) :
    Calls Tryd.prog 16 #[.agg #[.int .i64 d, .int .i64 l, .int .i64 f, .int .i64 s]] w fun e w' => e = .returned (.tuple #[.string (textN d.toNat l.toNat (f - 1).toNat (s - 1).toNat), .bool true]) ∧ Below w.heap.size w w' := by
  have c := fun W => l3Good_yes d l f s W h
  have ct := fun W => l3Text_valid d l f s W h
  clear h
  generalize textN d.toNat l.toNat (f - 1).toNat (s - 1).toNat = t at *
  go_enter Tryd.func16, Tryd.ntmps16
  go_wp2_with fail
  refine (c _).mono ?_
  rintro e w1 ⟨rfl, hb⟩
  obtain ⟨hc, hf⟩ := bcell hb
  have B := Lib.hid (((Below.refl _ w).alloc (Nat.le_refl _) _).trans (hb.mono (by simp)))
  clear hb c
  go_wp2_with fail
  refine (ct _).mono ?_
  rintro e w2 ⟨rfl, hb2⟩
  have B2 := Lib.hid (B.out.trans (hb2.mono B.out.size))
  clear hb2 ct hc hf
  go_wp2_with fail
  go_ret2
  exact ⟨rfl, B2.out⟩
theorem specText_no (d l f s : Int) (w : World) (h : ¬ FOk d l f s) :
    Calls Tryd.prog 16 #[.agg #[.int .i64 d, .int .i64 l, .int .i64 f, .int .i64 s]] w fun e w' => e = .returned (.tuple #[.string ⟨#[]⟩, .bool false]) ∧ Below w.heap.size w w' := by
  have c := fun W => l3Good_no d l f s W h
  clear h
  go_enter Tryd.func16, Tryd.ntmps16
  go_wp2_with fail
  refine (c _).mono ?_
  rintro e w1 ⟨rfl, hb⟩
  have B := Lib.hid (((Below.refl _ w).alloc (Nat.le_refl _) _).trans (hb.mono (by simp)))
  clear hb c
  go_wp2_with fail
  go_ret2
  exact ⟨rfl, B.out⟩
end Go.Proofs.YtmogabnngphfgaaDoor
