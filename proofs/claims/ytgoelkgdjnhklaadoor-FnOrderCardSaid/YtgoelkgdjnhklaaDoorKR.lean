/- Several small texts in one: BuildW, RText, RGText. -/
import Derived.Test.YtgoelkgdjnhklaaDoorShelf
import Derived.Test.YtgoelkgdjnhklaaDoorKA
import Derived.Test.YtgoelkgdjnhklaaDoorKV
import Derived.Test.YtgoelkgdjnhklaaDoorKG
import Derived.Deep.AppendLies
import Derived.Maps.AppendAt
import Derived.StillTailTactics
namespace Go.Proofs.YtgoelkgdjnhklaaDoor
open Go.RowKit

theorem infoB : (Tryd.prog.info? 145).map (fun i => (i.size)) = some 2 := by kernel_rfl
theorem infoU8 : (Tryd.prog.info? 5).map (fun i => (i.zero, i.size, i.bytes)) = some (some (.int .u8 0), 1, 1) := by kernel_rfl
set_option maxRecDepth 100000 in
set_option maxHeartbeats 1000000 in
theorem check_used (b : Nat) (w : World) (h0 : w.cell? ⟨b, 0, none⟩ = some (.pointer (some ⟨b, 0, none⟩))) :
    Calls Tryd.prog 152 #[.pointer (some ⟨b, 0, none⟩)] w fun e w' => e = .returned (.tuple #[]) ∧ w' = w := by
  obtain ⟨j, hj, _⟩ := Option.map_eq_some_iff.1 infoB
  go_enter Tryd.func152, Tryd.ntmps152
  go_wp2
  rw [Lib.run_neq_ptr_same w _ Tryd.underlying143 hj]
  go_wp2
  go_end0
  exact ⟨rfl, rfl⟩
set_option maxRecDepth 100000 in
set_option maxHeartbeats 1000000 in
theorem check_fresh (b : Nat) (w : World) (h0 : w.cell? ⟨b, 0, none⟩ = some (.pointer none)) (hsh : w.shape? b = some (145, 2)) (hfz : w.frozen? ⟨b, 0, none⟩ = false) :
    Calls Tryd.prog 152 #[.pointer (some ⟨b, 0, none⟩)] w fun e w' => e = .returned (.tuple #[]) ∧ w' = w.setCell ⟨b, 0, none⟩ (.pointer (some ⟨b, 0, none⟩)) := by
  obtain ⟨j, hj, hjs⟩ := Option.map_eq_some_iff.1 infoB
  go_enter Tryd.func152, Tryd.ntmps152
  go_wp2
  rw [Lib.run_to_unsafe w ⟨b, 0, none⟩ Tryd.underlying143 Tryd.underlying180 hj (by rw [hjs]; decide) hsh (Nat.zero_lt_succ 1)]
  simp only [Result.andThen]
  rw [Oper.upon_value]
  go_wp2
  rw [run_callFunc_extern Tryd.func169 (by kernel_rfl) (by kernel_rfl) (by kernel_rfl) (e := Extern.AbiNoEscape.same) (by kernel_rfl)]
  rw [Lib.run_noEscape]
  simp only [Result.andThen]
  rw [Oper.upon_value]
  go_wp2
  rw [Lib.run_from_unsafe w ⟨b, 0, none⟩ Tryd.underlying180 Tryd.underlying143 hj hsh (by kernel_rfl)]
  simp only [Result.andThen]
  rw [Oper.upon_value]
  go_wp2
  go_end0
  exact ⟨rfl, rfl⟩
/-- Behind the check the builder is a used one, its bytes as they were. -/
theorem check_any (B b : Nat) (bs : List Value) (w : World) (h : Lib.IsBuilder 145 5 B b bs w) :
    Calls Tryd.prog 152 #[.pointer (some ⟨b, 0, none⟩)] w fun e w' => e = .returned (.tuple #[]) ∧ (Lib.BuilderAt 145 5 B b (.pointer (some ⟨b, 0, none⟩)) bs w' ∧ Below B w w') := by
  rcases h with h | h
  · refine (check_fresh b w h.cell0 h.shape h.frozen0).mono ?_
    rintro e w' ⟨rfl, rfl⟩
    exact ⟨rfl, h.used _, (Below.refl B w).setCell (p := ⟨b, 0, none⟩) h.1 _⟩
  · refine (check_used b w h.cell0).mono ?_
    rintro e w' ⟨rfl, rfl⟩
    exact ⟨rfl, h, Below.refl B _⟩
/-- A block of the world stands below its heap's end. -/
theorem heap_lt {w : World} {b : Nat} {o : Obj} (h : w.heap[b]? = some o) : b < w.heap.size := by
  rcases Nat.lt_or_ge b w.heap.size with h' | h'
  · exact h'
  · simp [Array.getElem?_eq_none h'] at h
set_option maxRecDepth 100000 in
set_option maxHeartbeats 2000000 in
theorem writeByte_any (B b : Nat) (bs : List Value) (c : Int) (w : World) (h : Lib.IsBuilder 145 5 B b bs w) (hlen : bs.length + 1 ≤ 1000000) (hBw : B ≤ w.heap.size) :
    Calls Tryd.prog 165 #[.pointer (some ⟨b, 0, none⟩), .int .u8 c] w fun e w' => e = .returned .nilIface ∧ (Lib.IsBuilder 145 5 B b (bs ++ [.int .u8 c]) w' ∧ Below B w w') := by
  obtain ⟨i0, hi, hz0, hz1, hz2⟩ := info_parts infoU8
  go_enter Tryd.func165, Tryd.ntmps165
  go_wp2_with (go_at_call 152; refine (check_any B b bs _ h).mono ?_)
  rintro e w1 ⟨rfl, h1, hb1⟩
  obtain ⟨hB, v, hbk, hown, hne⟩ := h1
  have hs1 := hb1.size
  have c0 : w1.cell? ⟨b, 0, none⟩ = some (.pointer (some ⟨b, 0, none⟩)) := by rw [Lib.cell_of_heap hbk]; rfl
  have c1 : w1.cell? ⟨b, 1, none⟩ = some v := by rw [Lib.cell_of_heap hbk]; rfl
  go_wp2_with (at_builtin; refine wpList_append_own _ rfl _ _ 22 rfl B 5 i0 (.int .u8 0) 1 1 Tryd.underlying22 hi hz0 hz1 hz2 rfl (by decide) _ _ _ rfl (hown.alloc _) ⟨w1.heap.size, 0, none⟩ 1 1 [.int .u8 c] rfl rfl ?c1 ?c2 ?c3 ?c4 ?c5 ?_)
  case c1 =>
    intro j u hj
    match j, hj with
    | 0, hj => simp at hj; subst hj; simp [Addr.add]
  case c2 => intro u hu; simp at hu; subst hu; rfl
  case c3 => unfold maxLen; omega
  case c4 => omega
  case c5 => simp; omega
  intro v' w2 hown' hgrow _
  have hlt := heap_lt hbk
  have hb2 : w2.heap[b]? = some (.cells #[.pointer (some ⟨b, 0, none⟩), v] 145 (0, 0)) := by
    rw [hgrow.block b (by simp; omega) (fun e => hne e.symm), Lib.alloc_old w1 _ b hlt]
    exact hbk
  have d0 : w2.cell? ⟨b, 0, none⟩ = some (.pointer (some ⟨b, 0, none⟩)) := by rw [Lib.cell_of_heap hb2]; rfl
  have d1 : w2.cell? ⟨b, 1, none⟩ = some v := by rw [Lib.cell_of_heap hb2]; rfl
  have f1 : w2.frozen? ⟨b, 1, none⟩ = false := Lib.frozen_of_heap hb2 1
  obtain ⟨g, cap, rfl⟩ : ∃ g cap, v' = .slice (some ⟨g, 0, none⟩) (bs.length + 1) cap := by
    rcases hown'.2 with ⟨_, h0⟩ | ⟨g, cap, cur, hv, _⟩
    · omega
    · exact ⟨g, cap, hv⟩
  go_wp2
  go_ret
  refine ⟨rfl, .inr ?_, ?_⟩
  · exact Lib.BuilderAt.put (T := 145) (e := 5) hB hb2 (bs' := bs ++ [.int .u8 c]) (by simpa using hown') (by decide)
  · exact ((hb1.alloc (by omega) _).grown hgrow (by simp; omega) (fun k hk => (hown.lt k hk).1)).setCell (p := ⟨b, 1, none⟩) hB _
set_option maxRecDepth 100000 in
set_option maxHeartbeats 2000000 in
theorem writeString_any (B b : Nat) (bs : List Value) (s : ByteArray) (w : World) (h : Lib.IsBuilder 145 5 B b bs w) (hlen : bs.length + s.size ≤ 1000000) (hBw : B ≤ w.heap.size) :
    Calls Tryd.prog 121 #[.pointer (some ⟨b, 0, none⟩), .string s] w fun e w' => e = .returned (.tuple #[.int .i64 s.size, .nilIface]) ∧ (Lib.IsBuilder 145 5 B b (bs ++ Lib.strCells s) w' ∧ Below B w w') := by
  obtain ⟨i0, hi, hz0, hz1, hz2⟩ := info_parts infoU8
  go_enter Tryd.func121, Tryd.ntmps121
  go_wp2_with (go_at_call 152; refine (check_any B b bs _ h).mono ?_)
  rintro e w1 ⟨rfl, h1, hb1⟩
  obtain ⟨hB, v, hbk, hown, hne⟩ := h1
  have hs1 := hb1.size
  have c0 : w1.cell? ⟨b, 0, none⟩ = some (.pointer (some ⟨b, 0, none⟩)) := by rw [Lib.cell_of_heap hbk]; rfl
  have c1 : w1.cell? ⟨b, 1, none⟩ = some v := by rw [Lib.cell_of_heap hbk]; rfl
  go_wp2_with (at_builtin; refine Lib.wpList_append_own_string _ rfl _ _ 22 9 rfl B 5 i0 Tryd.underlying22 Tryd.underlying9 hi hz0 hz1 hz2 _ _ _ rfl hown s rfl ?c3 ?c4 ?c5 ?_)
  case c3 => unfold maxLen; omega
  case c4 => omega
  case c5 => omega
  intro v' w2 hown' hgrow _
  have hlt := heap_lt hbk
  have hb2 : w2.heap[b]? = some (.cells #[.pointer (some ⟨b, 0, none⟩), v] 145 (0, 0)) := by
    rw [hgrow.block b hlt (fun e => hne e.symm)]
    exact hbk
  have d0 : w2.cell? ⟨b, 0, none⟩ = some (.pointer (some ⟨b, 0, none⟩)) := by rw [Lib.cell_of_heap hb2]; rfl
  have d1 : w2.cell? ⟨b, 1, none⟩ = some v := by rw [Lib.cell_of_heap hb2]; rfl
  have f1 : w2.frozen? ⟨b, 1, none⟩ = false := Lib.frozen_of_heap hb2 1
  obtain ⟨ao, n', cap, rfl⟩ : ∃ ao n' cap, v' = .slice ao n' cap := by
    rcases hown'.2 with ⟨hv, _⟩ | ⟨g, cap, cur, hv, _⟩
    · exact ⟨_, _, _, hv⟩
    · exact ⟨_, _, _, hv⟩
  go_wp2
  go_ret2
  refine ⟨rfl, .inr ?_, ?_⟩
  · exact Lib.BuilderAt.put (T := 145) (e := 5) hB hb2 (bs' := bs ++ Lib.strCells s) (by simpa [Lib.strCells_length] using hown') (by decide)
  · exact (hb1.grown hgrow (by omega) (fun k hk => (hown.lt k hk).1)).setCell (p := ⟨b, 1, none⟩) hB _
end Go.Proofs.YtgoelkgdjnhklaaDoor
namespace Go.Proofs.YtgoelkgdjnhklaaDoor
open Go.RowKit

/-- The builder at block b holds these bytes. -/
def Bd (b : Nat) (l : List UInt8) (w : World) : Prop := Lib.IsBuilder 145 5 b b (Lib.byteCells l) w
theorem Bd.size {b : Nat} {l : List UInt8} {w : World} (h : Bd b l w) : b ≤ w.heap.size := by
  rcases h with h | h <;> exact Nat.le_of_lt h.lt
theorem bd_fresh (w : World) : Bd w.heap.size [] (w.alloc (.cells #[.pointer none, .slice none 0 0] 145)) := Lib.fresh_isBuilder 145 5 w
theorem wb (b : Nat) (l : List UInt8) (w : World) (h : Bd b l w) (hl : l.length ≤ 1000) :
    Calls Tryd.prog 165 #[.pointer (some ⟨b, 0, none⟩), .int .u8 32] w fun e w' => e = .returned .nilIface ∧ Bd b (l ++ [32]) w' ∧ Below b w w' := by
  refine (writeByte_any b b _ 32 w h (by rw [Lib.byteCells_length]; omega) h.size).mono ?_
  rintro e w' ⟨rfl, h1, h2⟩
  refine ⟨rfl, ?_, h2⟩
  unfold Bd
  rw [show Lib.byteCells (l ++ [32]) = Lib.byteCells l ++ [.int .u8 32] by simp [Lib.byteCells]]
  exact h1
theorem ws (b : Nat) (l : List UInt8) (s : ByteArray) (w : World) (h : Bd b l w) (hl : l.length ≤ 1000) (hs : s.size ≤ 1000) :
    Calls Tryd.prog 121 #[.pointer (some ⟨b, 0, none⟩), .string s] w fun e w' => e = .returned (.tuple #[.int .i64 s.size, .nilIface]) ∧ Bd b (l ++ s.data.toList) w' ∧ Below b w w' := by
  refine (writeString_any b b _ s w h (by rw [Lib.byteCells_length]; omega) h.size).mono ?_
  rintro e w' ⟨rfl, h1, h2⟩
  refine ⟨rfl, ?_, h2⟩
  unfold Bd
  rw [show Lib.byteCells (l ++ s.data.toList) = Lib.byteCells l ++ Lib.strCells s by simp [Lib.byteCells, Lib.strCells_eq]]
  exact h1
theorem bstr (b : Nat) (l : List UInt8) (w : World) (h : Bd b l w) :
    Calls Tryd.prog 122 #[.pointer (some ⟨b, 0, none⟩)] w fun e w' => e = .returned (.string ⟨l.toArray⟩) ∧ Below b w w' := Tryd.Builder_String_any b b l w h h.size
/-- What every write keeps: the field's box, the tables, and all that was there. -/
def FK (w : World) (b : Nat) (L : List Value) (W : World) : Prop := (w.heap.size < b ∧ TabsLie w) ∧ Box W w.heap.size L ∧ Below w.heap.size w W
theorem FK.next {w W W' : World} {b : Nat} {L : List Value} (h : FK w b L W) (hb : Below b W W') : FK w b L W' :=
  ⟨h.1, ⟨Nat.lt_of_lt_of_le h.2.1.1 hb.size, fun i v hv => (hb.cell (p := ⟨w.heap.size, i, none⟩) h.1.1).trans (h.2.1.2 i v hv)⟩, h.2.2.trans (hb.mono (Nat.le_of_lt h.1.1))⟩
theorem FK.tabs {w W : World} {b : Nat} {L : List Value} (h : FK w b L W) : TabsLie W := h.1.2.below h.2.2

set_option maxHeartbeats 4000000 in
theorem fieldText_plain (i : Nat) (w : World) (hi : i < 9) (hT : TabsLie w) :
    Calls Tryd.prog 149 #[.agg #[.int .i64 0, .int .i64 0, .int .i64 ((i : Int) + 1), .int .i64 0]] w fun e w' => e = .returned (.tuple #[.string ⟨([] ++ (wordN i).data.toList).toArray⟩, .bool true]) ∧ Below w.heap.size w w' := by
  have cv := fun W => validField_yes _ _ _ _ W (show FOk 0 0 ((i : Int) + 1) 0 from by unfold FOk; omega)
  obtain ⟨tI, hti⟩ : ∃ t, wordN i = t := ⟨_, rfl⟩
  have sI := wordN_size hi
  rw [hti] at sI ⊢
  have CV := Lib.hid cv
  have HT := Lib.hid hT
  clear cv hT
  go_enter Tryd.func149, Tryd.ntmps149
  go_wp2_with fail
  refine (CV.out _).mono ?_
  rintro e w1 ⟨rfl, hb⟩
  have hz : w.heap.size < w1.heap.size := by have := hb.size; simp at this; omega
  have X1 := (Box.new w [.int .i64 0, .int .i64 0, .int .i64 ((i : Int) + 1), .int .i64 0] 33).below hb
  have K0 : FK w w1.heap.size [.int .i64 0, .int .i64 0, .int .i64 ((i : Int) + 1), .int .i64 0] (w1.alloc (.cells #[.pointer none, .slice none 0 0] 145)) := ⟨⟨hz, HT.out⟩, X1.alloc _, (((Below.refl _ w).alloc (Nat.le_refl _) _).trans (hb.mono (by simp))).alloc (Nat.le_of_lt hz) _⟩
  have B0 := bd_fresh w1
  clear X1 hb CV HT
  have HK := Lib.hid K0
  have HB := Lib.hid B0
  clear K0 B0
  have x0 := HK.out.2.1.2 0 _ rfl
  have x1 := HK.out.2.1.2 1 _ rfl
  have x2 := HK.out.2.1.2 2 _ rfl
  have x3 := HK.out.2.1.2 3 _ rfl
  have t0 := HK.out.tabs.1 i hi
  rw [hti] at t0
  go_wp2_with fail
  refine (ws _ _ _ _ HB.out (by first | (simp; done) | (simp; omega)) (by first | omega | decide)).mono ?_
  rintro e w2 ⟨rfl, hB, hb⟩
  have HK0 := Lib.hid (HK.out.next hb)
  have HB0 := Lib.hid hB
  clear hB
  clear hb HK HB x0 x1 x2 x3 t0
  have HK := HK0
  clear HK0
  have HB := HB0
  clear HB0
  have x0 := HK.out.2.1.2 0 _ rfl
  have x1 := HK.out.2.1.2 1 _ rfl
  have x2 := HK.out.2.1.2 2 _ rfl
  have x3 := HK.out.2.1.2 3 _ rfl
  go_wp2_with fail
  refine (bstr _ _ _ HB.out).mono ?_
  rintro e w2 ⟨rfl, hb⟩
  have HK1 := Lib.hid (HK.out.next hb)
  clear hb HK HB x0 x1 x2 x3
  have HK := HK1
  clear HK1
  go_wp2_with fail
  go_ret2
  refine ⟨?_, HK.out.2.2⟩
  first
    | rfl
    | (show Ending.returned (Value.tuple #[Value.string _, Value.bool true]) = _; simp)
set_option maxHeartbeats 4000000 in
theorem fieldText_straight (k i j : Nat) (w : World) (hk : k < 7) (hi : i < 9) (hj : j < 9) (hij : i ≠ j) (hT : TabsLie w) :
    Calls Tryd.prog 149 #[.agg #[.int .i64 ((k : Int) + 1), .int .i64 0, .int .i64 ((i : Int) + 1), .int .i64 ((j : Int) + 1)]] w fun e w' => e = .returned (.tuple #[.string ⟨([] ++ (divN (k + 1)).data.toList ++ [32] ++ (wordN i).data.toList ++ [32, 97, 110, 100, 32] ++ (wordN j).data.toList).toArray⟩, .bool true]) ∧ Below w.heap.size w w' := by
  have cv := fun W => validField_yes _ _ _ _ W (show FOk ((k : Int) + 1) 0 ((i : Int) + 1) ((j : Int) + 1) from by unfold FOk; omega)
  obtain ⟨tI, hti⟩ : ∃ t, wordN i = t := ⟨_, rfl⟩
  have sI := wordN_size hi
  rw [hti] at sI ⊢
  obtain ⟨tJ, htj⟩ : ∃ t, wordN j = t := ⟨_, rfl⟩
  have sJ := wordN_size hj
  rw [htj] at sJ ⊢
  obtain ⟨tK, htk⟩ : ∃ t, divN (k + 1) = t := ⟨_, rfl⟩
  have sK := divN_size (i := k + 1) (by omega)
  rw [htk] at sK ⊢
  have ed : ((k : Int) + 1 != 0) = true := by rw [bne_iff_ne]; omega
  have CV := Lib.hid cv
  have HT := Lib.hid hT
  clear cv hT
  go_enter Tryd.func149, Tryd.ntmps149
  go_wp2_with fail
  refine (CV.out _).mono ?_
  rintro e w1 ⟨rfl, hb⟩
  have hz : w.heap.size < w1.heap.size := by have := hb.size; simp at this; omega
  have X1 := (Box.new w [.int .i64 ((k : Int) + 1), .int .i64 0, .int .i64 ((i : Int) + 1), .int .i64 ((j : Int) + 1)] 33).below hb
  have K0 : FK w w1.heap.size [.int .i64 ((k : Int) + 1), .int .i64 0, .int .i64 ((i : Int) + 1), .int .i64 ((j : Int) + 1)] (w1.alloc (.cells #[.pointer none, .slice none 0 0] 145)) := ⟨⟨hz, HT.out⟩, X1.alloc _, (((Below.refl _ w).alloc (Nat.le_refl _) _).trans (hb.mono (by simp))).alloc (Nat.le_of_lt hz) _⟩
  have B0 := bd_fresh w1
  clear X1 hb CV HT
  have HK := Lib.hid K0
  have HB := Lib.hid B0
  clear K0 B0
  have x0 := HK.out.2.1.2 0 _ rfl
  have x1 := HK.out.2.1.2 1 _ rfl
  have x2 := HK.out.2.1.2 2 _ rfl
  have x3 := HK.out.2.1.2 3 _ rfl
  have t0 := HK.out.tabs.2.1 k hk
  rw [htk] at t0
  go_wp2_with fail
  refine (ws _ _ _ _ HB.out (by first | (simp; done) | (simp; omega)) (by first | omega | decide)).mono ?_
  rintro e w2 ⟨rfl, hB, hb⟩
  have HK0 := Lib.hid (HK.out.next hb)
  have HB0 := Lib.hid hB
  clear hB
  clear hb HK HB x0 x1 x2 x3 t0
  have HK := HK0
  clear HK0
  have HB := HB0
  clear HB0
  have x0 := HK.out.2.1.2 0 _ rfl
  have x1 := HK.out.2.1.2 1 _ rfl
  have x2 := HK.out.2.1.2 2 _ rfl
  have x3 := HK.out.2.1.2 3 _ rfl
  go_wp2_with fail
  refine (wb _ _ _ HB.out (by first | (simp; done) | (simp; omega))).mono ?_
  rintro e w2 ⟨rfl, hB, hb⟩
  have HK1 := Lib.hid (HK.out.next hb)
  have HB1 := Lib.hid hB
  clear hB
  clear hb HK HB x0 x1 x2 x3
  have HK := HK1
  clear HK1
  have HB := HB1
  clear HB1
  have x0 := HK.out.2.1.2 0 _ rfl
  have x1 := HK.out.2.1.2 1 _ rfl
  have x2 := HK.out.2.1.2 2 _ rfl
  have x3 := HK.out.2.1.2 3 _ rfl
  have t0 := HK.out.tabs.1 i hi
  rw [hti] at t0
  go_wp2_with fail
  refine (ws _ _ _ _ HB.out (by first | (simp; done) | (simp; omega)) (by first | omega | decide)).mono ?_
  rintro e w2 ⟨rfl, hB, hb⟩
  have HK2 := Lib.hid (HK.out.next hb)
  have HB2 := Lib.hid hB
  clear hB
  clear hb HK HB x0 x1 x2 x3 t0
  have HK := HK2
  clear HK2
  have HB := HB2
  clear HB2
  have x0 := HK.out.2.1.2 0 _ rfl
  have x1 := HK.out.2.1.2 1 _ rfl
  have x2 := HK.out.2.1.2 2 _ rfl
  have x3 := HK.out.2.1.2 3 _ rfl
  go_wp2_with fail
  refine (ws _ _ _ _ HB.out (by first | (simp; done) | (simp; omega)) (by first | omega | decide)).mono ?_
  rintro e w2 ⟨rfl, hB, hb⟩
  have HK3 := Lib.hid (HK.out.next hb)
  have HB3 := Lib.hid hB
  clear hB
  clear hb HK HB x0 x1 x2 x3
  have HK := HK3
  clear HK3
  have HB := HB3
  clear HB3
  have x0 := HK.out.2.1.2 0 _ rfl
  have x1 := HK.out.2.1.2 1 _ rfl
  have x2 := HK.out.2.1.2 2 _ rfl
  have x3 := HK.out.2.1.2 3 _ rfl
  have t0 := HK.out.tabs.1 j hj
  rw [htj] at t0
  go_wp2_with fail
  refine (ws _ _ _ _ HB.out (by first | (simp; done) | (simp; omega)) (by first | omega | decide)).mono ?_
  rintro e w2 ⟨rfl, hB, hb⟩
  have HK4 := Lib.hid (HK.out.next hb)
  have HB4 := Lib.hid hB
  clear hB
  clear hb HK HB x0 x1 x2 x3 t0
  have HK := HK4
  clear HK4
  have HB := HB4
  clear HB4
  have x0 := HK.out.2.1.2 0 _ rfl
  have x1 := HK.out.2.1.2 1 _ rfl
  have x2 := HK.out.2.1.2 2 _ rfl
  have x3 := HK.out.2.1.2 3 _ rfl
  go_wp2_with fail
  refine (bstr _ _ _ HB.out).mono ?_
  rintro e w2 ⟨rfl, hb⟩
  have HK5 := Lib.hid (HK.out.next hb)
  clear hb HK HB x0 x1 x2 x3
  have HK := HK5
  clear HK5
  go_wp2_with fail
  go_ret2
  refine ⟨?_, HK.out.2.2⟩
  first
    | rfl
    | (show Ending.returned (Value.tuple #[Value.string _, Value.bool true]) = _; simp)
set_option maxHeartbeats 4000000 in
theorem fieldText_lined (k m i j : Nat) (w : World) (hk : k < 7) (hm : m < 4) (hi : i < 9) (hj : j < 9) (hij : i ≠ j) (hT : TabsLie w) :
    Calls Tryd.prog 149 #[.agg #[.int .i64 ((k : Int) + 1), .int .i64 ((m : Int) + 1), .int .i64 ((i : Int) + 1), .int .i64 ((j : Int) + 1)]] w fun e w' => e = .returned (.tuple #[.string ⟨([] ++ (divN (k + 1)).data.toList ++ [32] ++ (lineN (m + 1)).data.toList ++ [32] ++ (wordN i).data.toList ++ [32, 97, 110, 100, 32] ++ (wordN j).data.toList).toArray⟩, .bool true]) ∧ Below w.heap.size w w' := by
  have cv := fun W => validField_yes _ _ _ _ W (show FOk ((k : Int) + 1) ((m : Int) + 1) ((i : Int) + 1) ((j : Int) + 1) from by unfold FOk; omega)
  obtain ⟨tI, hti⟩ : ∃ t, wordN i = t := ⟨_, rfl⟩
  have sI := wordN_size hi
  rw [hti] at sI ⊢
  obtain ⟨tJ, htj⟩ : ∃ t, wordN j = t := ⟨_, rfl⟩
  have sJ := wordN_size hj
  rw [htj] at sJ ⊢
  obtain ⟨tK, htk⟩ : ∃ t, divN (k + 1) = t := ⟨_, rfl⟩
  have sK := divN_size (i := k + 1) (by omega)
  rw [htk] at sK ⊢
  obtain ⟨tM, htm⟩ : ∃ t, lineN (m + 1) = t := ⟨_, rfl⟩
  have sM := lineN_size (i := m + 1) (by omega)
  rw [htm] at sM ⊢
  have ed : ((k : Int) + 1 != 0) = true := by rw [bne_iff_ne]; omega
  have el : ((m : Int) + 1 != 0) = true := by rw [bne_iff_ne]; omega
  have CV := Lib.hid cv
  have HT := Lib.hid hT
  clear cv hT
  go_enter Tryd.func149, Tryd.ntmps149
  go_wp2_with fail
  refine (CV.out _).mono ?_
  rintro e w1 ⟨rfl, hb⟩
  have hz : w.heap.size < w1.heap.size := by have := hb.size; simp at this; omega
  have X1 := (Box.new w [.int .i64 ((k : Int) + 1), .int .i64 ((m : Int) + 1), .int .i64 ((i : Int) + 1), .int .i64 ((j : Int) + 1)] 33).below hb
  have K0 : FK w w1.heap.size [.int .i64 ((k : Int) + 1), .int .i64 ((m : Int) + 1), .int .i64 ((i : Int) + 1), .int .i64 ((j : Int) + 1)] (w1.alloc (.cells #[.pointer none, .slice none 0 0] 145)) := ⟨⟨hz, HT.out⟩, X1.alloc _, (((Below.refl _ w).alloc (Nat.le_refl _) _).trans (hb.mono (by simp))).alloc (Nat.le_of_lt hz) _⟩
  have B0 := bd_fresh w1
  clear X1 hb CV HT
  have HK := Lib.hid K0
  have HB := Lib.hid B0
  clear K0 B0
  have x0 := HK.out.2.1.2 0 _ rfl
  have x1 := HK.out.2.1.2 1 _ rfl
  have x2 := HK.out.2.1.2 2 _ rfl
  have x3 := HK.out.2.1.2 3 _ rfl
  have t0 := HK.out.tabs.2.1 k hk
  rw [htk] at t0
  go_wp2_with fail
  refine (ws _ _ _ _ HB.out (by first | (simp; done) | (simp; omega)) (by first | omega | decide)).mono ?_
  rintro e w2 ⟨rfl, hB, hb⟩
  have HK0 := Lib.hid (HK.out.next hb)
  have HB0 := Lib.hid hB
  clear hB
  clear hb HK HB x0 x1 x2 x3 t0
  have HK := HK0
  clear HK0
  have HB := HB0
  clear HB0
  have x0 := HK.out.2.1.2 0 _ rfl
  have x1 := HK.out.2.1.2 1 _ rfl
  have x2 := HK.out.2.1.2 2 _ rfl
  have x3 := HK.out.2.1.2 3 _ rfl
  go_wp2_with fail
  refine (wb _ _ _ HB.out (by first | (simp; done) | (simp; omega))).mono ?_
  rintro e w2 ⟨rfl, hB, hb⟩
  have HK1 := Lib.hid (HK.out.next hb)
  have HB1 := Lib.hid hB
  clear hB
  clear hb HK HB x0 x1 x2 x3
  have HK := HK1
  clear HK1
  have HB := HB1
  clear HB1
  have x0 := HK.out.2.1.2 0 _ rfl
  have x1 := HK.out.2.1.2 1 _ rfl
  have x2 := HK.out.2.1.2 2 _ rfl
  have x3 := HK.out.2.1.2 3 _ rfl
  have t0 := HK.out.tabs.2.2 m hm
  rw [htm] at t0
  go_wp2_with fail
  refine (ws _ _ _ _ HB.out (by first | (simp; done) | (simp; omega)) (by first | omega | decide)).mono ?_
  rintro e w2 ⟨rfl, hB, hb⟩
  have HK2 := Lib.hid (HK.out.next hb)
  have HB2 := Lib.hid hB
  clear hB
  clear hb HK HB x0 x1 x2 x3 t0
  have HK := HK2
  clear HK2
  have HB := HB2
  clear HB2
  have x0 := HK.out.2.1.2 0 _ rfl
  have x1 := HK.out.2.1.2 1 _ rfl
  have x2 := HK.out.2.1.2 2 _ rfl
  have x3 := HK.out.2.1.2 3 _ rfl
  go_wp2_with fail
  refine (wb _ _ _ HB.out (by first | (simp; done) | (simp; omega))).mono ?_
  rintro e w2 ⟨rfl, hB, hb⟩
  have HK3 := Lib.hid (HK.out.next hb)
  have HB3 := Lib.hid hB
  clear hB
  clear hb HK HB x0 x1 x2 x3
  have HK := HK3
  clear HK3
  have HB := HB3
  clear HB3
  have x0 := HK.out.2.1.2 0 _ rfl
  have x1 := HK.out.2.1.2 1 _ rfl
  have x2 := HK.out.2.1.2 2 _ rfl
  have x3 := HK.out.2.1.2 3 _ rfl
  have t0 := HK.out.tabs.1 i hi
  rw [hti] at t0
  go_wp2_with fail
  refine (ws _ _ _ _ HB.out (by first | (simp; done) | (simp; omega)) (by first | omega | decide)).mono ?_
  rintro e w2 ⟨rfl, hB, hb⟩
  have HK4 := Lib.hid (HK.out.next hb)
  have HB4 := Lib.hid hB
  clear hB
  clear hb HK HB x0 x1 x2 x3 t0
  have HK := HK4
  clear HK4
  have HB := HB4
  clear HB4
  have x0 := HK.out.2.1.2 0 _ rfl
  have x1 := HK.out.2.1.2 1 _ rfl
  have x2 := HK.out.2.1.2 2 _ rfl
  have x3 := HK.out.2.1.2 3 _ rfl
  go_wp2_with fail
  refine (ws _ _ _ _ HB.out (by first | (simp; done) | (simp; omega)) (by first | omega | decide)).mono ?_
  rintro e w2 ⟨rfl, hB, hb⟩
  have HK5 := Lib.hid (HK.out.next hb)
  have HB5 := Lib.hid hB
  clear hB
  clear hb HK HB x0 x1 x2 x3
  have HK := HK5
  clear HK5
  have HB := HB5
  clear HB5
  have x0 := HK.out.2.1.2 0 _ rfl
  have x1 := HK.out.2.1.2 1 _ rfl
  have x2 := HK.out.2.1.2 2 _ rfl
  have x3 := HK.out.2.1.2 3 _ rfl
  have t0 := HK.out.tabs.1 j hj
  rw [htj] at t0
  go_wp2_with fail
  refine (ws _ _ _ _ HB.out (by first | (simp; done) | (simp; omega)) (by first | omega | decide)).mono ?_
  rintro e w2 ⟨rfl, hB, hb⟩
  have HK6 := Lib.hid (HK.out.next hb)
  have HB6 := Lib.hid hB
  clear hB
  clear hb HK HB x0 x1 x2 x3 t0
  have HK := HK6
  clear HK6
  have HB := HB6
  clear HB6
  have x0 := HK.out.2.1.2 0 _ rfl
  have x1 := HK.out.2.1.2 1 _ rfl
  have x2 := HK.out.2.1.2 2 _ rfl
  have x3 := HK.out.2.1.2 3 _ rfl
  go_wp2_with fail
  refine (bstr _ _ _ HB.out).mono ?_
  rintro e w2 ⟨rfl, hb⟩
  have HK7 := Lib.hid (HK.out.next hb)
  clear hb HK HB x0 x1 x2 x3
  have HK := HK7
  clear HK7
  go_wp2_with fail
  go_ret2
  refine ⟨?_, HK.out.2.2⟩
  first
    | rfl
    | (show Ending.returned (Value.tuple #[Value.string _, Value.bool true]) = _; simp)
theorem fieldText_no (d l f s : Int) (w : World) (h : ¬ FOk d l f s) :
    Calls Tryd.prog 149 #[.agg #[.int .i64 d, .int .i64 l, .int .i64 f, .int .i64 s]] w fun e w' => e = .returned (.tuple #[.string ⟨#[]⟩, .bool false]) ∧ Below w.heap.size w w' := by
  have cv := fun W => validField_no d l f s W h
  clear h
  go_enter Tryd.func149, Tryd.ntmps149
  go_wp2_with fail
  refine (cv _).mono ?_
  rintro e w1 ⟨rfl, hb⟩
  have B := Lib.hid (((Below.refl _ w).alloc (Nat.le_refl _) _).trans (hb.mono (by simp)))
  clear hb cv
  go_wp2_with fail
  go_ret2
  exact ⟨rfl, B.out⟩
/-- A valid field: its text. -/
theorem fieldText_yes (d l f s : Int) (w : World) (h : FOk d l f s) (hT : TabsLie w) :
    Calls Tryd.prog 149 #[.agg #[.int .i64 d, .int .i64 l, .int .i64 f, .int .i64 s]] w fun e w' => e = .returned (.tuple #[.string (textN d.toNat l.toNat (f - 1).toNat (s - 1).toNat), .bool true]) ∧ Below w.heap.size w w' := by
  obtain ⟨hd, hl, hf, hs⟩ := h
  obtain ⟨i, rfl⟩ : ∃ i : Nat, f = (i : Int) + 1 := ⟨(f - 1).toNat, by omega⟩
  rw [show ((i : Int) + 1 - 1).toNat = i by omega]
  rcases hs with ⟨rfl, rfl, rfl⟩ | ⟨h0, hs, hne⟩
  · have c := fieldText_plain i w (by omega) hT
    have e : (⟨([] ++ (wordN i).data.toList).toArray⟩ : ByteArray) = textN 0 0 i 0 := by unfold textN; rw [if_pos rfl]; apply ByteArray.ext; simp
    rw [e] at c
    exact c
  · obtain ⟨j, rfl⟩ : ∃ j : Nat, s = (j : Int) + 1 := ⟨(s - 1).toNat, by omega⟩
    obtain ⟨k, rfl⟩ : ∃ k : Nat, d = (k : Int) + 1 := ⟨(d - 1).toNat, by omega⟩
    rw [show ((j : Int) + 1 - 1).toNat = j by omega, show ((k : Int) + 1).toNat = k + 1 by omega]
    by_cases h1 : l = 0
    · subst h1
      have c := fieldText_straight k i j w (by omega) (by omega) (by omega) (by omega) hT
      have e : (⟨([] ++ (divN (k + 1)).data.toList ++ [32] ++ (wordN i).data.toList ++ [32, 97, 110, 100, 32] ++ (wordN j).data.toList).toArray⟩ : ByteArray) = textN (k + 1) 0 i j := by unfold textN headN; rw [if_neg (by omega), if_pos rfl]; apply ByteArray.ext; simp
      rw [e] at c
      exact c
    · obtain ⟨m, rfl⟩ : ∃ m : Nat, l = (m : Int) + 1 := ⟨(l - 1).toNat, by omega⟩
      rw [show ((m : Int) + 1).toNat = m + 1 by omega]
      have c := fieldText_lined k m i j w (by omega) (by omega) (by omega) (by omega) (by omega) hT
      have e : (⟨([] ++ (divN (k + 1)).data.toList ++ [32] ++ (lineN (m + 1)).data.toList ++ [32] ++ (wordN i).data.toList ++ [32, 97, 110, 100, 32] ++ (wordN j).data.toList).toArray⟩ : ByteArray) = textN (k + 1) (m + 1) i j := by unfold textN headN; rw [if_neg (by omega), if_neg (by omega)]; apply ByteArray.ext; simp
      rw [e] at c
      exact c
/-- The model's text of a valid field, in the same words. -/
theorem l3Text_valid (d l f s : Int) (w : World) (h : FOk d l f s) :
    Calls Tryd.prog 126 #[.agg #[.int .i64 d, .int .i64 l, .int .i64 f, .int .i64 s]] w fun e w' => e = .returned (.string (textN d.toNat l.toNat (f - 1).toNat (s - 1).toNat)) ∧ Below w.heap.size w w' := by
  obtain ⟨hd, hl, hf, hs⟩ := h
  obtain ⟨i, rfl⟩ : ∃ i : Nat, f = (i : Int) + 1 := ⟨(f - 1).toNat, by omega⟩
  rw [show ((i : Int) + 1 - 1).toNat = i by omega]
  rcases hs with ⟨rfl, rfl, rfl⟩ | ⟨h0, hs, hne⟩
  · exact l3Text_plain 0 0 i w (by omega)
  · obtain ⟨j, rfl⟩ : ∃ j : Nat, s = (j : Int) + 1 := ⟨(s - 1).toNat, by omega⟩
    obtain ⟨k, rfl⟩ : ∃ k : Nat, d = (k : Int) := ⟨d.toNat, by omega⟩
    obtain ⟨m, rfl⟩ : ∃ m : Nat, l = (m : Int) := ⟨l.toNat, by omega⟩
    rw [show ((j : Int) + 1 - 1).toNat = j by omega]
    exact l3Text_any k m i j w (by omega) (by omega) (by omega) (by omega) (by omega)
end Go.Proofs.YtgoelkgdjnhklaaDoor
namespace Go.Proofs.YtgoelkgdjnhklaaDoor
open Go.RowKit

theorem kindN_size {j : Nat} (h : j < 8) : (kindN j).size ≤ 6 := by
  rcases (show j = 0 ∨ j = 1 ∨ j = 2 ∨ j = 3 ∨ j = 4 ∨ j = 5 ∨ j = 6 ∨ j = 7 by omega) with rfl | rfl | rfl | rfl | rfl | rfl | rfl | rfl <;> decide
theorem kindWord_impl' (j c : Nat) (w : World) (hj : j < 8) (hc1 : 1 ≤ c) (hc : c ≤ 6) (hK : KindsLie w) :
    Calls Tryd.prog 166 #[.int .i64 ((j : Int) + 1), .int .i64 (c : Int)] w fun e w' => e = .returned (.tuple #[.string (kwordN (j + 1) c), .bool true]) ∧ w = w' := by
  have c1 := fun W => isKind_any ((j : Int) + 1) W true (decide_eq_true (by omega))
  have c2 := fun W => isCount_any (c : Int) W true (decide_eq_true (by omega))
  have hcell := hK j hj
  obtain ⟨p1, e1⟩ : ∃ p, ((c : Int) == 1) = p := ⟨_, rfl⟩
  obtain ⟨p2, e2⟩ : ∃ p, ((j : Int) + 1 == 3) = p := ⟨_, rfl⟩
  have hR : kwordN (j + 1) c = if (p1 || p2) = true then kindN j else kindN j ++ ⟨#[115]⟩ := by
    unfold kwordN
    rw [Nat.add_sub_cancel, ← e1, ← e2]
    by_cases q1 : c = 1 <;> by_cases q2 : j + 1 = 3
    · rw [if_neg (by omega), if_pos (by simp [q1])]
    · rw [if_neg (by omega), if_pos (by simp [q1])]
    · rw [if_neg (by omega), if_pos (by simp; omega)]
    · rw [if_pos (by omega), if_neg (by simp; omega)]
  rw [hR]
  have hs := kindN_size hj
  generalize kindN j = s at *
  clear hR hK
  cases p1 <;> cases p2
  all_goals
    go_enter Tryd.func166, Tryd.ntmps166
    go_wp2_with (first | (go_at_call 164; refine (c1 _).mono ?_; rintro e w' ⟨rfl, rfl⟩) | (go_at_call 163; refine (c2 _).mono ?_; rintro e w' ⟨rfl, rfl⟩))
    go_ret2
    exact ⟨rfl, rfl⟩
theorem kindWord_impl (k c : Nat) (w : World) (hk1 : 1 ≤ k) (hk : k ≤ 8) (hc1 : 1 ≤ c) (hc : c ≤ 6) (hK : KindsLie w) :
    Calls Tryd.prog 166 #[.int .i64 (k : Int), .int .i64 (c : Int)] w fun e w' => e = .returned (.tuple #[.string (kwordN k c), .bool true]) ∧ w = w' := by
  obtain ⟨j, rfl⟩ : ∃ j, k = j + 1 := ⟨k - 1, by omega⟩
  exact kindWord_impl' j c w (by omega) hc1 hc hK
theorem kindWord_impl_no (k c : Int) (w : World) (h : ¬ ((1 ≤ k ∧ k ≤ 8) ∧ 1 ≤ c ∧ c ≤ 6)) :
    Calls Tryd.prog 166 #[.int .i64 k, .int .i64 c] w fun e w' => e = .returned (.tuple #[.string ⟨#[]⟩, .bool false]) ∧ w = w' := by
  obtain ⟨p1, h1⟩ : ∃ p, decide (1 ≤ k ∧ k ≤ 8) = p := ⟨_, rfl⟩
  obtain ⟨p2, h2⟩ : ∃ p, decide (1 ≤ c ∧ c ≤ 6) = p := ⟨_, rfl⟩
  have c1 := fun W => isKind_any k W p1 h1
  have c2 := fun W => isCount_any c W p2 h2
  cases p1
  · clear h1 h2 h
    go_enter Tryd.func166, Tryd.ntmps166
    go_wp2_with (go_at_call 164; refine (c1 _).mono ?_; rintro e w' ⟨rfl, rfl⟩)
    go_ret2
    exact ⟨rfl, rfl⟩
  · cases p2
    · clear h1 h2 h
      go_enter Tryd.func166, Tryd.ntmps166
      go_wp2_with (first | (go_at_call 164; refine (c1 _).mono ?_; rintro e w' ⟨rfl, rfl⟩) | (go_at_call 163; refine (c2 _).mono ?_; rintro e w' ⟨rfl, rfl⟩))
      go_ret2
      exact ⟨rfl, rfl⟩
    · exact absurd ⟨of_decide_eq_true h1, of_decide_eq_true h2⟩ h
set_option maxHeartbeats 1000000 in
theorem countWord_impl (ci j : Nat) (a t : Int) (w : World) (hc : ci < 6) (hC : CountsLie w) :
    Calls Tryd.prog 167 #[.agg #[.int .i64 ((ci : Int) + 1), .int .i64 ((j : Int) + 1), .int .i64 a, .int .i64 t]] w fun e w' => e = .returned (.string (artN (ci + 1) (j + 1))) ∧ Below w.heap.size w w' := by
  have hcell := hC ci hc
  have hcell' : (w.alloc (.cells #[.int .i64 ((ci : Int) + 1), .int .i64 ((j : Int) + 1), .int .i64 a, .int .i64 t] 35 (0, 0))).cell? ⟨8, ci, none⟩ = some (.string (countN ci)) := by
    rw [World.cell?_alloc_lt _ _ _ (World.block_lt_of_cell? w _ hcell)]; exact hcell
  obtain ⟨p1, e1⟩ : ∃ p, ((ci : Int) + 1 == 1) = p := ⟨_, rfl⟩
  obtain ⟨p2, e2⟩ : ∃ p, ((j : Int) + 1 == 2) = p := ⟨_, rfl⟩
  have hR : artN (ci + 1) (j + 1) = if (p1 && p2) = true then ⟨#[97, 110]⟩ else countN ci := by
    unfold artN
    rw [Nat.add_sub_cancel, ← e1, ← e2]
    by_cases q1 : ci + 1 = 1 <;> by_cases q2 : j + 1 = 2
    · rw [if_pos ⟨q1, q2⟩, if_pos (by simp; omega)]
    · rw [if_neg (fun h => q2 h.2), if_neg (by simp; omega)]
    · rw [if_neg (fun h => q1 h.1), if_neg (by simp; omega)]
    · rw [if_neg (fun h => q1 h.1), if_neg (by simp; omega)]
  rw [hR]
  generalize countN ci = s at *
  clear hR hC hcell
  cases p1 <;> cases p2
  all_goals
    go_enter Tryd.func167, Tryd.ntmps167
    go_wp2_with fail
    go_ret
    exact ⟨rfl, (Below.refl _ _).alloc (Nat.le_refl _) _⟩
end Go.Proofs.YtgoelkgdjnhklaaDoor
