/- Several small texts in one: BuildK, RLink. -/
import Derived.Test.YtgoelkgdjnhklaaDoorKR
import Derived.Test.YtgoelkgdjnhklaaDoorKD
import Derived.Test.YtgoelkgdjnhklaaDoorK5
import Derived.Test.YtgoelkgdjnhklaaDoorK7
import Derived.Test.YtgoelkgdjnhklaaDoorK6
import Derived.OwnWalk
import Derived.Laws.OwnMore
import Derived.Maps.AppendAt
namespace Go.Proofs.YtgoelkgdjnhklaaDoor
open Go.RowKit

theorem check_fine (B b : Nat) (bs : List Value) (w : World) (h : Lib.IsBuilder 145 5 B b bs w) :
    Calls Tryd.prog 152 #[.pointer (some ⟨b, 0, none⟩)] w fun e w' => e = .returned (.tuple #[]) ∧ (Lib.BuilderAt 145 5 B b (.pointer (some ⟨b, 0, none⟩)) bs w' ∧ Below B w w' ∧ ∀ k, k ≠ b → w'.heap[k]? = w.heap[k]?) := by
  rcases h with h | h
  · refine (check_fresh b w h.cell0 h.shape h.frozen0).mono ?_
    rintro e w' ⟨rfl, rfl⟩
    exact ⟨rfl, h.used _, (Below.refl B w).setCell (p := ⟨b, 0, none⟩) h.1 _, fun k hk => heap_setCell_other w ⟨b, 0, none⟩ k _ (by simpa using hk)⟩
  · refine (check_used b w h.cell0).mono ?_
    rintro e w' ⟨rfl, rfl⟩
    exact ⟨rfl, h, Below.refl B _, fun _ _ => rfl⟩
set_option maxRecDepth 100000 in
set_option maxHeartbeats 2000000 in
theorem writeString_fine (B b : Nat) (bs : List Value) (s : ByteArray) (w : World) (h : Lib.IsBuilder 145 5 B b bs w) (hlen : bs.length + s.size ≤ 1000000) (hBw : B ≤ w.heap.size) :
    Calls Tryd.prog 121 #[.pointer (some ⟨b, 0, none⟩), .string s] w fun e w' => e = .returned (.tuple #[.int .i64 s.size, .nilIface]) ∧ (Lib.IsBuilder 145 5 B b (bs ++ Lib.strCells s) w' ∧ Below B w w' ∧ ∀ k cs T q, w.heap[k]? = some (.cells cs T q) → T ≠ 5 → k ≠ b → w'.heap[k]? = some (.cells cs T q)) := by
  obtain ⟨i0, hi, hz0, hz1, hz2⟩ := info_parts infoU8
  go_enter Tryd.func121, Tryd.ntmps121
  go_wp2_with (go_at_call 152; refine (check_fine B b bs _ h).mono ?_)
  rintro e w1 ⟨rfl, h1, hb1, hf1⟩
  obtain ⟨hB, v, hbk, hown, hne⟩ := h1
  have hs1 := hb1.size
  have c0 : w1.cell? ⟨b, 0, none⟩ = some (.pointer (some ⟨b, 0, none⟩)) := by rw [Lib.cell_of_heap hbk]; rfl
  have c1 : w1.cell? ⟨b, 1, none⟩ = some v := by rw [Lib.cell_of_heap hbk]; rfl
  go_wp2_with (at_builtin; refine Lib.wpList_append_own_string _ rfl _ _ 22 9 rfl B 5 i0 Tryd.underlying22 Tryd.underlying9 hi hz0 hz1 hz2 _ _ _ rfl hown s rfl ?c3 ?c4 ?c5 ?_)
  case c3 => unfold maxLen; omega
  case c4 => omega
  case c5 => omega
  intro v' w2 hown' hgrow _
  have hlt := heap_lt hbk
  have hb2 : w2.heap[b]? = some (.cells #[.pointer (some ⟨b, 0, none⟩), v] 145 (0, 0)) := by
    rw [hgrow.block b hlt (fun e => hne e.symm)]
    exact hbk
  have d0 : w2.cell? ⟨b, 0, none⟩ = some (.pointer (some ⟨b, 0, none⟩)) := by rw [Lib.cell_of_heap hb2]; rfl
  have d1 : w2.cell? ⟨b, 1, none⟩ = some v := by rw [Lib.cell_of_heap hb2]; rfl
  have f1 : w2.frozen? ⟨b, 1, none⟩ = false := Lib.frozen_of_heap hb2 1
  obtain ⟨ao, n', cap, rfl⟩ : ∃ ao n' cap, v' = .slice ao n' cap := by
    rcases hown'.2 with ⟨hv, _⟩ | ⟨g, cap, cur, hv, _⟩
    · exact ⟨_, _, _, hv⟩
    · exact ⟨_, _, _, hv⟩
  go_wp2
  go_ret2
  refine ⟨rfl, .inr ?_, ?_, ?_⟩
  · exact Lib.BuilderAt.put (T := 145) (e := 5) hB hb2 (bs' := bs ++ Lib.strCells s) (by simpa [Lib.strCells_length] using hown') (by decide)
  · exact (hb1.grown hgrow (by omega) (fun k hk => (hown.lt k hk).1)).setCell (p := ⟨b, 1, none⟩) hB _
  · intro k cs T q hk hT hkb
    have k1 := (hf1 k hkb).trans hk
    have hl := heap_lt k1
    have hne2 : some k ≠ v.ownBlock := fun e => by
      rcases hown.2 with ⟨hv, _⟩ | ⟨g, cap', cur, hv, _, hg, _⟩
      · rw [hv] at e; cases e
      · rw [hv] at e
        cases e
        rw [hg] at k1
        cases k1
        exact hT rfl
    have k2 := (hgrow.block k hl hne2).trans k1
    exact (heap_setCell_other w2 ⟨b, 1, none⟩ k _ (by simpa using hkb)).trans k2
theorem ws2 (b : Nat) (l : List UInt8) (s : ByteArray) (w : World) (h : Bd b l w) (hl : l.length ≤ 1000) (hs : s.size ≤ 1000) :
    Calls Tryd.prog 121 #[.pointer (some ⟨b, 0, none⟩), .string s] w fun e w' => e = .returned (.tuple #[.int .i64 s.size, .nilIface]) ∧ Bd b (l ++ s.data.toList) w' ∧ Below b w w' ∧ ∀ k cs T q, w.heap[k]? = some (.cells cs T q) → T ≠ 5 → k ≠ b → w'.heap[k]? = some (.cells cs T q) := by
  refine (writeString_fine b b _ s w h (by rw [Lib.byteCells_length]; omega) h.size).mono ?_
  rintro e w' ⟨rfl, h1, h2, h3⟩
  refine ⟨rfl, ?_, h2, h3⟩
  unfold Bd
  rw [show Lib.byteCells (l ++ s.data.toList) = Lib.byteCells l ++ Lib.strCells s by simp [Lib.byteCells, Lib.strCells_eq]]
  exact h1
end Go.Proofs.YtgoelkgdjnhklaaDoor
namespace Go.Proofs.YtgoelkgdjnhklaaDoor
open Go.RowKit

theorem infoL : (Tryd.prog.info? 149).map (fun i => (i.zero, i.size, i.bytes)) = some (some (.agg #[.string ByteArray.empty, .string ByteArray.empty]), 2, 32) := by kernel_rfl
/-- A row of the call's own behind block B holds these cells. -/
def OwnL (w : World) (B : Nat) (v : Value) (n : Nat) (cs : List Value) : Prop := w.ownsRow B 149 2 v n cs
theorem OwnL.below {w w' : World} {B n : Nat} {v : Value} {cs : List Value} (h : OwnL w B v n cs) (hb : Below w.heap.size w w') : OwnL w' B v n cs :=
  World.ownsRow.kept (row := none) h ⟨hb.os, hb.tape, hb.output, hb.size, fun i hi _ => hb.block i hi⟩ (by cases h : v.ownBlock <;> simp)
theorem cell_newL (W : World) (L : List Value) (t : TypeId) : ∀ j u, L[j]? = some u → (W.alloc (.cells L.toArray t (0, 0))).cell? ((⟨W.heap.size, 0, none⟩ : Addr).add j) = some u := fun j u hj => by
  have e : (⟨W.heap.size, 0, none⟩ : Addr).add j = ⟨W.heap.size, j, none⟩ := by unfold Addr.add; split <;> simp_all
  rw [e]
  exact ((BoxF.new W L t).at j).trans hj
theorem AK.grown {w W W' : World} {L : List Value} {row : Option Nat} (h : AK w L W) (hg : W.grownBy W' row) (hr : ∀ q, row = some q → w.heap.size + 1 ≤ q) : AK w L W' :=
  ⟨h.1.kept hg (fun e => by have := hr _ e.symm; omega), h.2.grown hg h.2.size (fun q hq => by have := hr q hq; omega)⟩
theorem AK.alloc {w W : World} {L : List Value} (h : AK w L W) (o : Obj) : AK w L (W.alloc o) := ⟨h.1.alloc o, h.2.alloc h.2.size o⟩
theorem AK.lt {w W : World} {L : List Value} (h : AK w L W) : w.heap.size + 1 ≤ W.heap.size := h.1.lt
set_option maxRecDepth 100000 in
set_option maxHeartbeats 8000000 in
theorem linked_000 (d l f s o n x c k a t c' k' a' t' : Int) (F O G G' : ByteArray) (w : World) (hF : ∀ W, Below w.heap.size w W → Calls Tryd.prog 149 #[.agg #[.int .i64 d, .int .i64 l, .int .i64 f, .int .i64 s]] W fun e w' => e = .returned (.tuple #[.string F, .bool true]) ∧ Below W.heap.size W w') (hO : ∀ W, Below w.heap.size w W → Calls Tryd.prog 21 #[.int .i64 o, .int .i64 n, .int .i64 x] W fun e w' => e = .returned (.tuple #[.string O, .bool false]) ∧ Below W.heap.size W w') (hG : ∀ W, Below w.heap.size w W → Calls Tryd.prog 150 #[.agg #[.int .i64 c, .int .i64 k, .int .i64 a, .int .i64 t]] W fun e w' => e = .returned (.tuple #[.string G, .bool false]) ∧ Below W.heap.size W w') (hG' : ∀ W, Below w.heap.size w W → Calls Tryd.prog 150 #[.agg #[.int .i64 c', .int .i64 k', .int .i64 a', .int .i64 t']] W fun e w' => e = .returned (.tuple #[.string G', .bool false]) ∧ Below W.heap.size W w') :
    Calls Tryd.prog 120 #[.agg #[.int .i64 d, .int .i64 l, .int .i64 f, .int .i64 s, .int .i64 o, .int .i64 n, .int .i64 x, .int .i64 c, .int .i64 k, .int .i64 a, .int .i64 t, .int .i64 c', .int .i64 k', .int .i64 a', .int .i64 t']] w fun e w' => ∃ v, e = .returned v ∧ OwnL w' (w.heap.size + 1) v 1 [.string ⟨#[]⟩, .string F] ∧ Below w.heap.size w w' := by
  obtain ⟨i0, hi, hz0, hz1, hz2⟩ := info_parts infoL
  have K0 := Lib.hid (AK.new w [.int .i64 d, .int .i64 l, .int .i64 f, .int .i64 s, .int .i64 o, .int .i64 n, .int .i64 x, .int .i64 c, .int .i64 k, .int .i64 a, .int .i64 t, .int .i64 c', .int .i64 k', .int .i64 a', .int .i64 t'])
  have HF := Lib.hid hF
  have HO := Lib.hid hO
  have HG := Lib.hid hG
  have HG' := Lib.hid hG'
  clear hF hO hG hG'
  have kx := K0.out.1.fifteen
  obtain ⟨x0, x1, x2, x3, x4, x5, x6, x7, x8, x9, x10, x11, x12, x13, x14, xf⟩ := kx
  go_enter Tryd.func120, Tryd.ntmps120
  go_wp2_with fail
  refine (HF.out _ K0.out.2).mono ?_
  rintro e w1 ⟨rfl, g1⟩
  clear x0 x1 x2 x3 x4 x5 x6 x7 x8 x9 x10 x11 x12 x13 x14 xf
  have k1_ := K0.out.below g1
  have K1 := Lib.hid (k1_.alloc (.cells #[.string ⟨#[]⟩, .string F] 149 (0, 0)))
  have O1 : Hid (OwnL (w1.alloc (.cells #[.string ⟨#[]⟩, .string F] 149 (0, 0))) (w.heap.size + 1) (.slice (some ⟨w1.heap.size, 0, none⟩) 1 1) 1 [.string ⟨#[]⟩, .string F]) := Lib.hid (World.ownsRow_lit (e := 149) (size := 2) (base := w.heap.size + 1) w1 #[.string ⟨#[]⟩, .string F] 1 k1_.lt (by unfold maxLen; omega) rfl)
  clear g1 k1_
  have kx := K1.out.1.fifteen
  obtain ⟨x0, x1, x2, x3, x4, x5, x6, x7, x8, x9, x10, x11, x12, x13, x14, xf⟩ := kx
  go_wp2_with fail
  refine (HO.out _ K1.out.2).mono ?_
  rintro e w2 ⟨rfl, g1⟩
  clear x0 x1 x2 x3 x4 x5 x6 x7 x8 x9 x10 x11 x12 x13 x14 xf
  have K2 := Lib.hid (K1.out.below g1)
  have O2 := Lib.hid (O1.out.below g1)
  clear g1 K1 O1
  have kx := K2.out.1.fifteen
  obtain ⟨x0, x1, x2, x3, x4, x5, x6, x7, x8, x9, x10, x11, x12, x13, x14, xf⟩ := kx
  go_wp2_with fail
  refine (HG.out _ K2.out.2).mono ?_
  rintro e w3 ⟨rfl, g1⟩
  clear x0 x1 x2 x3 x4 x5 x6 x7 x8 x9 x10 x11 x12 x13 x14 xf
  have K3 := Lib.hid (K2.out.below g1)
  have O3 := Lib.hid (O2.out.below g1)
  clear g1 K2 O2
  have kx := K3.out.1.fifteen
  obtain ⟨x0, x1, x2, x3, x4, x5, x6, x7, x8, x9, x10, x11, x12, x13, x14, xf⟩ := kx
  go_wp2_with fail
  refine (HG'.out _ K3.out.2).mono ?_
  rintro e w4 ⟨rfl, g1⟩
  clear x0 x1 x2 x3 x4 x5 x6 x7 x8 x9 x10 x11 x12 x13 x14 xf
  have K4 := Lib.hid (K3.out.below g1)
  have O4 := Lib.hid (O3.out.below g1)
  clear g1 K3 O3
  go_wp2_with fail
  go_ret
  exact ⟨_, rfl, O4.out, K4.out.2⟩
set_option maxRecDepth 100000 in
set_option maxHeartbeats 8000000 in
theorem linked_001 (d l f s o n x c k a t c' k' a' t' : Int) (F O G G' J : ByteArray) (w : World) (hF : ∀ W, Below w.heap.size w W → Calls Tryd.prog 149 #[.agg #[.int .i64 d, .int .i64 l, .int .i64 f, .int .i64 s]] W fun e w' => e = .returned (.tuple #[.string F, .bool true]) ∧ Below W.heap.size W w') (hO : ∀ W, Below w.heap.size w W → Calls Tryd.prog 21 #[.int .i64 o, .int .i64 n, .int .i64 x] W fun e w' => e = .returned (.tuple #[.string O, .bool false]) ∧ Below W.heap.size W w') (hG : ∀ W, Below w.heap.size w W → Calls Tryd.prog 150 #[.agg #[.int .i64 c, .int .i64 k, .int .i64 a, .int .i64 t]] W fun e w' => e = .returned (.tuple #[.string G, .bool false]) ∧ Below W.heap.size W w') (hG' : ∀ W, Below w.heap.size w W → Calls Tryd.prog 150 #[.agg #[.int .i64 c', .int .i64 k', .int .i64 a', .int .i64 t']] W fun e w' => e = .returned (.tuple #[.string G', .bool true]) ∧ Below W.heap.size W w') (hJ : ∀ W, Calls Tryd.prog 151 #[.int .i64 o] W fun e w' => e = .returned (.string J) ∧ W = w') :
    Calls Tryd.prog 120 #[.agg #[.int .i64 d, .int .i64 l, .int .i64 f, .int .i64 s, .int .i64 o, .int .i64 n, .int .i64 x, .int .i64 c, .int .i64 k, .int .i64 a, .int .i64 t, .int .i64 c', .int .i64 k', .int .i64 a', .int .i64 t']] w fun e w' => ∃ v, e = .returned v ∧ OwnL w' (w.heap.size + 1) v 2 [.string ⟨#[]⟩, .string F, .string J, .string G'] ∧ Below w.heap.size w w' := by
  obtain ⟨i0, hi, hz0, hz1, hz2⟩ := info_parts infoL
  have K0 := Lib.hid (AK.new w [.int .i64 d, .int .i64 l, .int .i64 f, .int .i64 s, .int .i64 o, .int .i64 n, .int .i64 x, .int .i64 c, .int .i64 k, .int .i64 a, .int .i64 t, .int .i64 c', .int .i64 k', .int .i64 a', .int .i64 t'])
  have HF := Lib.hid hF
  have HO := Lib.hid hO
  have HG := Lib.hid hG
  have HG' := Lib.hid hG'
  have HJ := Lib.hid hJ
  clear hF hO hG hG' hJ
  have kx := K0.out.1.fifteen
  obtain ⟨x0, x1, x2, x3, x4, x5, x6, x7, x8, x9, x10, x11, x12, x13, x14, xf⟩ := kx
  go_enter Tryd.func120, Tryd.ntmps120
  go_wp2_with fail
  refine (HF.out _ K0.out.2).mono ?_
  rintro e w1 ⟨rfl, g1⟩
  clear x0 x1 x2 x3 x4 x5 x6 x7 x8 x9 x10 x11 x12 x13 x14 xf
  have k1_ := K0.out.below g1
  have K1 := Lib.hid (k1_.alloc (.cells #[.string ⟨#[]⟩, .string F] 149 (0, 0)))
  have O1 : Hid (OwnL (w1.alloc (.cells #[.string ⟨#[]⟩, .string F] 149 (0, 0))) (w.heap.size + 1) (.slice (some ⟨w1.heap.size, 0, none⟩) 1 1) 1 [.string ⟨#[]⟩, .string F]) := Lib.hid (World.ownsRow_lit (e := 149) (size := 2) (base := w.heap.size + 1) w1 #[.string ⟨#[]⟩, .string F] 1 k1_.lt (by unfold maxLen; omega) rfl)
  clear g1 k1_
  have kx := K1.out.1.fifteen
  obtain ⟨x0, x1, x2, x3, x4, x5, x6, x7, x8, x9, x10, x11, x12, x13, x14, xf⟩ := kx
  go_wp2_with fail
  refine (HO.out _ K1.out.2).mono ?_
  rintro e w2 ⟨rfl, g1⟩
  clear x0 x1 x2 x3 x4 x5 x6 x7 x8 x9 x10 x11 x12 x13 x14 xf
  have K2 := Lib.hid (K1.out.below g1)
  have O2 := Lib.hid (O1.out.below g1)
  clear g1 K1 O1
  have kx := K2.out.1.fifteen
  obtain ⟨x0, x1, x2, x3, x4, x5, x6, x7, x8, x9, x10, x11, x12, x13, x14, xf⟩ := kx
  go_wp2_with fail
  refine (HG.out _ K2.out.2).mono ?_
  rintro e w3 ⟨rfl, g1⟩
  clear x0 x1 x2 x3 x4 x5 x6 x7 x8 x9 x10 x11 x12 x13 x14 xf
  have K3 := Lib.hid (K2.out.below g1)
  have O3 := Lib.hid (O2.out.below g1)
  clear g1 K2 O2
  have kx := K3.out.1.fifteen
  obtain ⟨x0, x1, x2, x3, x4, x5, x6, x7, x8, x9, x10, x11, x12, x13, x14, xf⟩ := kx
  go_wp2_with fail
  refine (HG'.out _ K3.out.2).mono ?_
  rintro e w4 ⟨rfl, g1⟩
  clear x0 x1 x2 x3 x4 x5 x6 x7 x8 x9 x10 x11 x12 x13 x14 xf
  have K4 := Lib.hid (K3.out.below g1)
  have O4 := Lib.hid (O3.out.below g1)
  clear g1 K3 O3
  have kx := K4.out.1.fifteen
  obtain ⟨x0, x1, x2, x3, x4, x5, x6, x7, x8, x9, x10, x11, x12, x13, x14, xf⟩ := kx
  go_wp2_with fail
  refine (HJ.out _).mono ?_
  rintro e w_ ⟨rfl, rfl⟩
  clear x0 x1 x2 x3 x4 x5 x6 x7 x8 x9 x10 x11 x12 x13 x14 xf
  go_wp2_with (at_builtin; refine wpList_append_own _ rfl _ _ 146 rfl (w.heap.size + 1) 149 i0 _ 2 32 Tryd.underlying146 hi hz0 hz1 hz2 rfl (by decide) _ _ _ rfl (World.ownsRow.alloc O4.out _) ⟨w4.heap.size, 0, none⟩ 1 1 [.string J, .string G'] rfl rfl (cell_newL w4 [.string J, .string G'] 149) (by simp [Value.oneCell']) (by unfold maxLen; omega) (by omega) (by have := K4.out.lt; simp; omega) ?_; intro v5 w5 hown hgrow _; have O5 : Hid (OwnL w5 (w.heap.size + 1) v5 2 [.string ⟨#[]⟩, .string F, .string J, .string G']) := Lib.hid hown; have K5 := Lib.hid ((K4.out.alloc (.cells #[.string J, .string G'] 149 (0, 0))).grown hgrow (fun q hq => (World.ownsRow.lt O4.out q hq).1)); clear hown hgrow; have kx := K5.out.1.fifteen; obtain ⟨x0, x1, x2, x3, x4, x5, x6, x7, x8, x9, x10, x11, x12, x13, x14, xf⟩ := kx)
  go_ret
  exact ⟨_, rfl, O5.out, K5.out.2⟩
set_option maxRecDepth 100000 in
set_option maxHeartbeats 8000000 in
theorem linked_100 (d l f s o n x c k a t c' k' a' t' : Int) (F O G G' : ByteArray) (w : World) (hF : ∀ W, Below w.heap.size w W → Calls Tryd.prog 149 #[.agg #[.int .i64 d, .int .i64 l, .int .i64 f, .int .i64 s]] W fun e w' => e = .returned (.tuple #[.string F, .bool true]) ∧ Below W.heap.size W w') (hO : ∀ W, Below w.heap.size w W → Calls Tryd.prog 21 #[.int .i64 o, .int .i64 n, .int .i64 x] W fun e w' => e = .returned (.tuple #[.string O, .bool true]) ∧ Below W.heap.size W w') (hG : ∀ W, Below w.heap.size w W → Calls Tryd.prog 150 #[.agg #[.int .i64 c, .int .i64 k, .int .i64 a, .int .i64 t]] W fun e w' => e = .returned (.tuple #[.string G, .bool false]) ∧ Below W.heap.size W w') (hG' : ∀ W, Below w.heap.size w W → Calls Tryd.prog 150 #[.agg #[.int .i64 c', .int .i64 k', .int .i64 a', .int .i64 t']] W fun e w' => e = .returned (.tuple #[.string G', .bool false]) ∧ Below W.heap.size W w') :
    Calls Tryd.prog 120 #[.agg #[.int .i64 d, .int .i64 l, .int .i64 f, .int .i64 s, .int .i64 o, .int .i64 n, .int .i64 x, .int .i64 c, .int .i64 k, .int .i64 a, .int .i64 t, .int .i64 c', .int .i64 k', .int .i64 a', .int .i64 t']] w fun e w' => ∃ v, e = .returned v ∧ OwnL w' (w.heap.size + 1) v 2 [.string ⟨#[]⟩, .string F, .string ⟨#[44, 32]⟩, .string O] ∧ Below w.heap.size w w' := by
  obtain ⟨i0, hi, hz0, hz1, hz2⟩ := info_parts infoL
  have K0 := Lib.hid (AK.new w [.int .i64 d, .int .i64 l, .int .i64 f, .int .i64 s, .int .i64 o, .int .i64 n, .int .i64 x, .int .i64 c, .int .i64 k, .int .i64 a, .int .i64 t, .int .i64 c', .int .i64 k', .int .i64 a', .int .i64 t'])
  have HF := Lib.hid hF
  have HO := Lib.hid hO
  have HG := Lib.hid hG
  have HG' := Lib.hid hG'
  clear hF hO hG hG'
  have kx := K0.out.1.fifteen
  obtain ⟨x0, x1, x2, x3, x4, x5, x6, x7, x8, x9, x10, x11, x12, x13, x14, xf⟩ := kx
  go_enter Tryd.func120, Tryd.ntmps120
  go_wp2_with fail
  refine (HF.out _ K0.out.2).mono ?_
  rintro e w1 ⟨rfl, g1⟩
  clear x0 x1 x2 x3 x4 x5 x6 x7 x8 x9 x10 x11 x12 x13 x14 xf
  have k1_ := K0.out.below g1
  have K1 := Lib.hid (k1_.alloc (.cells #[.string ⟨#[]⟩, .string F] 149 (0, 0)))
  have O1 : Hid (OwnL (w1.alloc (.cells #[.string ⟨#[]⟩, .string F] 149 (0, 0))) (w.heap.size + 1) (.slice (some ⟨w1.heap.size, 0, none⟩) 1 1) 1 [.string ⟨#[]⟩, .string F]) := Lib.hid (World.ownsRow_lit (e := 149) (size := 2) (base := w.heap.size + 1) w1 #[.string ⟨#[]⟩, .string F] 1 k1_.lt (by unfold maxLen; omega) rfl)
  clear g1 k1_
  have kx := K1.out.1.fifteen
  obtain ⟨x0, x1, x2, x3, x4, x5, x6, x7, x8, x9, x10, x11, x12, x13, x14, xf⟩ := kx
  go_wp2_with fail
  refine (HO.out _ K1.out.2).mono ?_
  rintro e w2 ⟨rfl, g1⟩
  clear x0 x1 x2 x3 x4 x5 x6 x7 x8 x9 x10 x11 x12 x13 x14 xf
  have K2 := Lib.hid (K1.out.below g1)
  have O2 := Lib.hid (O1.out.below g1)
  clear g1 K1 O1
  go_wp2_with (at_builtin; refine wpList_append_own _ rfl _ _ 146 rfl (w.heap.size + 1) 149 i0 _ 2 32 Tryd.underlying146 hi hz0 hz1 hz2 rfl (by decide) _ _ _ rfl (World.ownsRow.alloc O2.out _) ⟨w2.heap.size, 0, none⟩ 1 1 [.string ⟨#[44, 32]⟩, .string O] rfl rfl (cell_newL w2 [.string ⟨#[44, 32]⟩, .string O] 149) (by simp [Value.oneCell']) (by unfold maxLen; omega) (by omega) (by have := K2.out.lt; simp; omega) ?_; intro v3 w3 hown hgrow _; have O3 : Hid (OwnL w3 (w.heap.size + 1) v3 2 [.string ⟨#[]⟩, .string F, .string ⟨#[44, 32]⟩, .string O]) := Lib.hid hown; have K3 := Lib.hid ((K2.out.alloc (.cells #[.string ⟨#[44, 32]⟩, .string O] 149 (0, 0))).grown hgrow (fun q hq => (World.ownsRow.lt O2.out q hq).1)); clear hown hgrow; have kx := K3.out.1.fifteen; obtain ⟨x0, x1, x2, x3, x4, x5, x6, x7, x8, x9, x10, x11, x12, x13, x14, xf⟩ := kx)
  refine (HG.out _ K3.out.2).mono ?_
  rintro e w4 ⟨rfl, g1⟩
  clear x0 x1 x2 x3 x4 x5 x6 x7 x8 x9 x10 x11 x12 x13 x14 xf
  have K4 := Lib.hid (K3.out.below g1)
  have O4 := Lib.hid (O3.out.below g1)
  clear g1 K3 O3
  have kx := K4.out.1.fifteen
  obtain ⟨x0, x1, x2, x3, x4, x5, x6, x7, x8, x9, x10, x11, x12, x13, x14, xf⟩ := kx
  go_wp2_with fail
  refine (HG'.out _ K4.out.2).mono ?_
  rintro e w5 ⟨rfl, g1⟩
  clear x0 x1 x2 x3 x4 x5 x6 x7 x8 x9 x10 x11 x12 x13 x14 xf
  have K5 := Lib.hid (K4.out.below g1)
  have O5 := Lib.hid (O4.out.below g1)
  clear g1 K4 O4
  go_wp2_with fail
  go_ret
  exact ⟨_, rfl, O5.out, K5.out.2⟩
set_option maxRecDepth 100000 in
set_option maxHeartbeats 8000000 in
theorem linked_101 (d l f s o n x c k a t c' k' a' t' : Int) (F O G G' J : ByteArray) (w : World) (hF : ∀ W, Below w.heap.size w W → Calls Tryd.prog 149 #[.agg #[.int .i64 d, .int .i64 l, .int .i64 f, .int .i64 s]] W fun e w' => e = .returned (.tuple #[.string F, .bool true]) ∧ Below W.heap.size W w') (hO : ∀ W, Below w.heap.size w W → Calls Tryd.prog 21 #[.int .i64 o, .int .i64 n, .int .i64 x] W fun e w' => e = .returned (.tuple #[.string O, .bool true]) ∧ Below W.heap.size W w') (hG : ∀ W, Below w.heap.size w W → Calls Tryd.prog 150 #[.agg #[.int .i64 c, .int .i64 k, .int .i64 a, .int .i64 t]] W fun e w' => e = .returned (.tuple #[.string G, .bool false]) ∧ Below W.heap.size W w') (hG' : ∀ W, Below w.heap.size w W → Calls Tryd.prog 150 #[.agg #[.int .i64 c', .int .i64 k', .int .i64 a', .int .i64 t']] W fun e w' => e = .returned (.tuple #[.string G', .bool true]) ∧ Below W.heap.size W w') (hJ : ∀ W, Calls Tryd.prog 151 #[.int .i64 o] W fun e w' => e = .returned (.string J) ∧ W = w') :
    Calls Tryd.prog 120 #[.agg #[.int .i64 d, .int .i64 l, .int .i64 f, .int .i64 s, .int .i64 o, .int .i64 n, .int .i64 x, .int .i64 c, .int .i64 k, .int .i64 a, .int .i64 t, .int .i64 c', .int .i64 k', .int .i64 a', .int .i64 t']] w fun e w' => ∃ v, e = .returned v ∧ OwnL w' (w.heap.size + 1) v 3 [.string ⟨#[]⟩, .string F, .string ⟨#[44, 32]⟩, .string O, .string J, .string G'] ∧ Below w.heap.size w w' := by
  obtain ⟨i0, hi, hz0, hz1, hz2⟩ := info_parts infoL
  have K0 := Lib.hid (AK.new w [.int .i64 d, .int .i64 l, .int .i64 f, .int .i64 s, .int .i64 o, .int .i64 n, .int .i64 x, .int .i64 c, .int .i64 k, .int .i64 a, .int .i64 t, .int .i64 c', .int .i64 k', .int .i64 a', .int .i64 t'])
  have HF := Lib.hid hF
  have HO := Lib.hid hO
  have HG := Lib.hid hG
  have HG' := Lib.hid hG'
  have HJ := Lib.hid hJ
  clear hF hO hG hG' hJ
  have kx := K0.out.1.fifteen
  obtain ⟨x0, x1, x2, x3, x4, x5, x6, x7, x8, x9, x10, x11, x12, x13, x14, xf⟩ := kx
  go_enter Tryd.func120, Tryd.ntmps120
  go_wp2_with fail
  refine (HF.out _ K0.out.2).mono ?_
  rintro e w1 ⟨rfl, g1⟩
  clear x0 x1 x2 x3 x4 x5 x6 x7 x8 x9 x10 x11 x12 x13 x14 xf
  have k1_ := K0.out.below g1
  have K1 := Lib.hid (k1_.alloc (.cells #[.string ⟨#[]⟩, .string F] 149 (0, 0)))
  have O1 : Hid (OwnL (w1.alloc (.cells #[.string ⟨#[]⟩, .string F] 149 (0, 0))) (w.heap.size + 1) (.slice (some ⟨w1.heap.size, 0, none⟩) 1 1) 1 [.string ⟨#[]⟩, .string F]) := Lib.hid (World.ownsRow_lit (e := 149) (size := 2) (base := w.heap.size + 1) w1 #[.string ⟨#[]⟩, .string F] 1 k1_.lt (by unfold maxLen; omega) rfl)
  clear g1 k1_
  have kx := K1.out.1.fifteen
  obtain ⟨x0, x1, x2, x3, x4, x5, x6, x7, x8, x9, x10, x11, x12, x13, x14, xf⟩ := kx
  go_wp2_with fail
  refine (HO.out _ K1.out.2).mono ?_
  rintro e w2 ⟨rfl, g1⟩
  clear x0 x1 x2 x3 x4 x5 x6 x7 x8 x9 x10 x11 x12 x13 x14 xf
  have K2 := Lib.hid (K1.out.below g1)
  have O2 := Lib.hid (O1.out.below g1)
  clear g1 K1 O1
  go_wp2_with (at_builtin; refine wpList_append_own _ rfl _ _ 146 rfl (w.heap.size + 1) 149 i0 _ 2 32 Tryd.underlying146 hi hz0 hz1 hz2 rfl (by decide) _ _ _ rfl (World.ownsRow.alloc O2.out _) ⟨w2.heap.size, 0, none⟩ 1 1 [.string ⟨#[44, 32]⟩, .string O] rfl rfl (cell_newL w2 [.string ⟨#[44, 32]⟩, .string O] 149) (by simp [Value.oneCell']) (by unfold maxLen; omega) (by omega) (by have := K2.out.lt; simp; omega) ?_; intro v3 w3 hown hgrow _; have O3 : Hid (OwnL w3 (w.heap.size + 1) v3 2 [.string ⟨#[]⟩, .string F, .string ⟨#[44, 32]⟩, .string O]) := Lib.hid hown; have K3 := Lib.hid ((K2.out.alloc (.cells #[.string ⟨#[44, 32]⟩, .string O] 149 (0, 0))).grown hgrow (fun q hq => (World.ownsRow.lt O2.out q hq).1)); clear hown hgrow; have kx := K3.out.1.fifteen; obtain ⟨x0, x1, x2, x3, x4, x5, x6, x7, x8, x9, x10, x11, x12, x13, x14, xf⟩ := kx)
  refine (HG.out _ K3.out.2).mono ?_
  rintro e w4 ⟨rfl, g1⟩
  clear x0 x1 x2 x3 x4 x5 x6 x7 x8 x9 x10 x11 x12 x13 x14 xf
  have K4 := Lib.hid (K3.out.below g1)
  have O4 := Lib.hid (O3.out.below g1)
  clear g1 K3 O3
  have kx := K4.out.1.fifteen
  obtain ⟨x0, x1, x2, x3, x4, x5, x6, x7, x8, x9, x10, x11, x12, x13, x14, xf⟩ := kx
  go_wp2_with fail
  refine (HG'.out _ K4.out.2).mono ?_
  rintro e w5 ⟨rfl, g1⟩
  clear x0 x1 x2 x3 x4 x5 x6 x7 x8 x9 x10 x11 x12 x13 x14 xf
  have K5 := Lib.hid (K4.out.below g1)
  have O5 := Lib.hid (O4.out.below g1)
  clear g1 K4 O4
  have kx := K5.out.1.fifteen
  obtain ⟨x0, x1, x2, x3, x4, x5, x6, x7, x8, x9, x10, x11, x12, x13, x14, xf⟩ := kx
  go_wp2_with fail
  refine (HJ.out _).mono ?_
  rintro e w_ ⟨rfl, rfl⟩
  clear x0 x1 x2 x3 x4 x5 x6 x7 x8 x9 x10 x11 x12 x13 x14 xf
  go_wp2_with (at_builtin; refine wpList_append_own _ rfl _ _ 146 rfl (w.heap.size + 1) 149 i0 _ 2 32 Tryd.underlying146 hi hz0 hz1 hz2 rfl (by decide) _ _ _ rfl (World.ownsRow.alloc O5.out _) ⟨w5.heap.size, 0, none⟩ 1 1 [.string J, .string G'] rfl rfl (cell_newL w5 [.string J, .string G'] 149) (by simp [Value.oneCell']) (by unfold maxLen; omega) (by omega) (by have := K5.out.lt; simp; omega) ?_; intro v6 w6 hown hgrow _; have O6 : Hid (OwnL w6 (w.heap.size + 1) v6 3 [.string ⟨#[]⟩, .string F, .string ⟨#[44, 32]⟩, .string O, .string J, .string G']) := Lib.hid hown; have K6 := Lib.hid ((K5.out.alloc (.cells #[.string J, .string G'] 149 (0, 0))).grown hgrow (fun q hq => (World.ownsRow.lt O5.out q hq).1)); clear hown hgrow; have kx := K6.out.1.fifteen; obtain ⟨x0, x1, x2, x3, x4, x5, x6, x7, x8, x9, x10, x11, x12, x13, x14, xf⟩ := kx)
  go_ret
  exact ⟨_, rfl, O6.out, K6.out.2⟩
set_option maxRecDepth 100000 in
set_option maxHeartbeats 8000000 in
theorem linked_110 (d l f s o n x c k a t c' k' a' t' : Int) (F O G G' : ByteArray) (w : World) (hF : ∀ W, Below w.heap.size w W → Calls Tryd.prog 149 #[.agg #[.int .i64 d, .int .i64 l, .int .i64 f, .int .i64 s]] W fun e w' => e = .returned (.tuple #[.string F, .bool true]) ∧ Below W.heap.size W w') (hO : ∀ W, Below w.heap.size w W → Calls Tryd.prog 21 #[.int .i64 o, .int .i64 n, .int .i64 x] W fun e w' => e = .returned (.tuple #[.string O, .bool true]) ∧ Below W.heap.size W w') (hG : ∀ W, Below w.heap.size w W → Calls Tryd.prog 150 #[.agg #[.int .i64 c, .int .i64 k, .int .i64 a, .int .i64 t]] W fun e w' => e = .returned (.tuple #[.string G, .bool true]) ∧ Below W.heap.size W w') (hG' : ∀ W, Below w.heap.size w W → Calls Tryd.prog 150 #[.agg #[.int .i64 c', .int .i64 k', .int .i64 a', .int .i64 t']] W fun e w' => e = .returned (.tuple #[.string G', .bool false]) ∧ Below W.heap.size W w') :
    Calls Tryd.prog 120 #[.agg #[.int .i64 d, .int .i64 l, .int .i64 f, .int .i64 s, .int .i64 o, .int .i64 n, .int .i64 x, .int .i64 c, .int .i64 k, .int .i64 a, .int .i64 t, .int .i64 c', .int .i64 k', .int .i64 a', .int .i64 t']] w fun e w' => ∃ v, e = .returned v ∧ OwnL w' (w.heap.size + 1) v 3 [.string ⟨#[]⟩, .string F, .string ⟨#[44, 32]⟩, .string O, .string ⟨#[32, 99, 104, 97, 114, 103, 101, 100, 32, 119, 105, 116, 104, 32]⟩, .string G] ∧ Below w.heap.size w w' := by
  obtain ⟨i0, hi, hz0, hz1, hz2⟩ := info_parts infoL
  have K0 := Lib.hid (AK.new w [.int .i64 d, .int .i64 l, .int .i64 f, .int .i64 s, .int .i64 o, .int .i64 n, .int .i64 x, .int .i64 c, .int .i64 k, .int .i64 a, .int .i64 t, .int .i64 c', .int .i64 k', .int .i64 a', .int .i64 t'])
  have HF := Lib.hid hF
  have HO := Lib.hid hO
  have HG := Lib.hid hG
  have HG' := Lib.hid hG'
  clear hF hO hG hG'
  have kx := K0.out.1.fifteen
  obtain ⟨x0, x1, x2, x3, x4, x5, x6, x7, x8, x9, x10, x11, x12, x13, x14, xf⟩ := kx
  go_enter Tryd.func120, Tryd.ntmps120
  go_wp2_with fail
  refine (HF.out _ K0.out.2).mono ?_
  rintro e w1 ⟨rfl, g1⟩
  clear x0 x1 x2 x3 x4 x5 x6 x7 x8 x9 x10 x11 x12 x13 x14 xf
  have k1_ := K0.out.below g1
  have K1 := Lib.hid (k1_.alloc (.cells #[.string ⟨#[]⟩, .string F] 149 (0, 0)))
  have O1 : Hid (OwnL (w1.alloc (.cells #[.string ⟨#[]⟩, .string F] 149 (0, 0))) (w.heap.size + 1) (.slice (some ⟨w1.heap.size, 0, none⟩) 1 1) 1 [.string ⟨#[]⟩, .string F]) := Lib.hid (World.ownsRow_lit (e := 149) (size := 2) (base := w.heap.size + 1) w1 #[.string ⟨#[]⟩, .string F] 1 k1_.lt (by unfold maxLen; omega) rfl)
  clear g1 k1_
  have kx := K1.out.1.fifteen
  obtain ⟨x0, x1, x2, x3, x4, x5, x6, x7, x8, x9, x10, x11, x12, x13, x14, xf⟩ := kx
  go_wp2_with fail
  refine (HO.out _ K1.out.2).mono ?_
  rintro e w2 ⟨rfl, g1⟩
  clear x0 x1 x2 x3 x4 x5 x6 x7 x8 x9 x10 x11 x12 x13 x14 xf
  have K2 := Lib.hid (K1.out.below g1)
  have O2 := Lib.hid (O1.out.below g1)
  clear g1 K1 O1
  go_wp2_with (at_builtin; refine wpList_append_own _ rfl _ _ 146 rfl (w.heap.size + 1) 149 i0 _ 2 32 Tryd.underlying146 hi hz0 hz1 hz2 rfl (by decide) _ _ _ rfl (World.ownsRow.alloc O2.out _) ⟨w2.heap.size, 0, none⟩ 1 1 [.string ⟨#[44, 32]⟩, .string O] rfl rfl (cell_newL w2 [.string ⟨#[44, 32]⟩, .string O] 149) (by simp [Value.oneCell']) (by unfold maxLen; omega) (by omega) (by have := K2.out.lt; simp; omega) ?_; intro v3 w3 hown hgrow _; have O3 : Hid (OwnL w3 (w.heap.size + 1) v3 2 [.string ⟨#[]⟩, .string F, .string ⟨#[44, 32]⟩, .string O]) := Lib.hid hown; have K3 := Lib.hid ((K2.out.alloc (.cells #[.string ⟨#[44, 32]⟩, .string O] 149 (0, 0))).grown hgrow (fun q hq => (World.ownsRow.lt O2.out q hq).1)); clear hown hgrow; have kx := K3.out.1.fifteen; obtain ⟨x0, x1, x2, x3, x4, x5, x6, x7, x8, x9, x10, x11, x12, x13, x14, xf⟩ := kx)
  refine (HG.out _ K3.out.2).mono ?_
  rintro e w4 ⟨rfl, g1⟩
  clear x0 x1 x2 x3 x4 x5 x6 x7 x8 x9 x10 x11 x12 x13 x14 xf
  have K4 := Lib.hid (K3.out.below g1)
  have O4 := Lib.hid (O3.out.below g1)
  clear g1 K3 O3
  go_wp2_with (at_builtin; refine wpList_append_own _ rfl _ _ 146 rfl (w.heap.size + 1) 149 i0 _ 2 32 Tryd.underlying146 hi hz0 hz1 hz2 rfl (by decide) _ _ _ rfl (World.ownsRow.alloc O4.out _) ⟨w4.heap.size, 0, none⟩ 1 1 [.string ⟨#[32, 99, 104, 97, 114, 103, 101, 100, 32, 119, 105, 116, 104, 32]⟩, .string G] rfl rfl (cell_newL w4 [.string ⟨#[32, 99, 104, 97, 114, 103, 101, 100, 32, 119, 105, 116, 104, 32]⟩, .string G] 149) (by simp [Value.oneCell']) (by unfold maxLen; omega) (by omega) (by have := K4.out.lt; simp; omega) ?_; intro v5 w5 hown hgrow _; have O5 : Hid (OwnL w5 (w.heap.size + 1) v5 3 [.string ⟨#[]⟩, .string F, .string ⟨#[44, 32]⟩, .string O, .string ⟨#[32, 99, 104, 97, 114, 103, 101, 100, 32, 119, 105, 116, 104, 32]⟩, .string G]) := Lib.hid hown; have K5 := Lib.hid ((K4.out.alloc (.cells #[.string ⟨#[32, 99, 104, 97, 114, 103, 101, 100, 32, 119, 105, 116, 104, 32]⟩, .string G] 149 (0, 0))).grown hgrow (fun q hq => (World.ownsRow.lt O4.out q hq).1)); clear hown hgrow; have kx := K5.out.1.fifteen; obtain ⟨x0, x1, x2, x3, x4, x5, x6, x7, x8, x9, x10, x11, x12, x13, x14, xf⟩ := kx)
  refine (HG'.out _ K5.out.2).mono ?_
  rintro e w6 ⟨rfl, g1⟩
  clear x0 x1 x2 x3 x4 x5 x6 x7 x8 x9 x10 x11 x12 x13 x14 xf
  have K6 := Lib.hid (K5.out.below g1)
  have O6 := Lib.hid (O5.out.below g1)
  clear g1 K5 O5
  go_wp2_with fail
  go_ret
  exact ⟨_, rfl, O6.out, K6.out.2⟩
set_option maxRecDepth 100000 in
set_option maxHeartbeats 8000000 in
theorem linked_111 (d l f s o n x c k a t c' k' a' t' : Int) (F O G G' J : ByteArray) (w : World) (hF : ∀ W, Below w.heap.size w W → Calls Tryd.prog 149 #[.agg #[.int .i64 d, .int .i64 l, .int .i64 f, .int .i64 s]] W fun e w' => e = .returned (.tuple #[.string F, .bool true]) ∧ Below W.heap.size W w') (hO : ∀ W, Below w.heap.size w W → Calls Tryd.prog 21 #[.int .i64 o, .int .i64 n, .int .i64 x] W fun e w' => e = .returned (.tuple #[.string O, .bool true]) ∧ Below W.heap.size W w') (hG : ∀ W, Below w.heap.size w W → Calls Tryd.prog 150 #[.agg #[.int .i64 c, .int .i64 k, .int .i64 a, .int .i64 t]] W fun e w' => e = .returned (.tuple #[.string G, .bool true]) ∧ Below W.heap.size W w') (hG' : ∀ W, Below w.heap.size w W → Calls Tryd.prog 150 #[.agg #[.int .i64 c', .int .i64 k', .int .i64 a', .int .i64 t']] W fun e w' => e = .returned (.tuple #[.string G', .bool true]) ∧ Below W.heap.size W w') (hJ : ∀ W, Calls Tryd.prog 151 #[.int .i64 o] W fun e w' => e = .returned (.string J) ∧ W = w') :
    Calls Tryd.prog 120 #[.agg #[.int .i64 d, .int .i64 l, .int .i64 f, .int .i64 s, .int .i64 o, .int .i64 n, .int .i64 x, .int .i64 c, .int .i64 k, .int .i64 a, .int .i64 t, .int .i64 c', .int .i64 k', .int .i64 a', .int .i64 t']] w fun e w' => ∃ v, e = .returned v ∧ OwnL w' (w.heap.size + 1) v 4 [.string ⟨#[]⟩, .string F, .string ⟨#[44, 32]⟩, .string O, .string ⟨#[32, 99, 104, 97, 114, 103, 101, 100, 32, 119, 105, 116, 104, 32]⟩, .string G, .string J, .string G'] ∧ Below w.heap.size w w' := by
  obtain ⟨i0, hi, hz0, hz1, hz2⟩ := info_parts infoL
  have K0 := Lib.hid (AK.new w [.int .i64 d, .int .i64 l, .int .i64 f, .int .i64 s, .int .i64 o, .int .i64 n, .int .i64 x, .int .i64 c, .int .i64 k, .int .i64 a, .int .i64 t, .int .i64 c', .int .i64 k', .int .i64 a', .int .i64 t'])
  have HF := Lib.hid hF
  have HO := Lib.hid hO
  have HG := Lib.hid hG
  have HG' := Lib.hid hG'
  have HJ := Lib.hid hJ
  clear hF hO hG hG' hJ
  have kx := K0.out.1.fifteen
  obtain ⟨x0, x1, x2, x3, x4, x5, x6, x7, x8, x9, x10, x11, x12, x13, x14, xf⟩ := kx
  go_enter Tryd.func120, Tryd.ntmps120
  go_wp2_with fail
  refine (HF.out _ K0.out.2).mono ?_
  rintro e w1 ⟨rfl, g1⟩
  clear x0 x1 x2 x3 x4 x5 x6 x7 x8 x9 x10 x11 x12 x13 x14 xf
  have k1_ := K0.out.below g1
  have K1 := Lib.hid (k1_.alloc (.cells #[.string ⟨#[]⟩, .string F] 149 (0, 0)))
  have O1 : Hid (OwnL (w1.alloc (.cells #[.string ⟨#[]⟩, .string F] 149 (0, 0))) (w.heap.size + 1) (.slice (some ⟨w1.heap.size, 0, none⟩) 1 1) 1 [.string ⟨#[]⟩, .string F]) := Lib.hid (World.ownsRow_lit (e := 149) (size := 2) (base := w.heap.size + 1) w1 #[.string ⟨#[]⟩, .string F] 1 k1_.lt (by unfold maxLen; omega) rfl)
  clear g1 k1_
  have kx := K1.out.1.fifteen
  obtain ⟨x0, x1, x2, x3, x4, x5, x6, x7, x8, x9, x10, x11, x12, x13, x14, xf⟩ := kx
  go_wp2_with fail
  refine (HO.out _ K1.out.2).mono ?_
  rintro e w2 ⟨rfl, g1⟩
  clear x0 x1 x2 x3 x4 x5 x6 x7 x8 x9 x10 x11 x12 x13 x14 xf
  have K2 := Lib.hid (K1.out.below g1)
  have O2 := Lib.hid (O1.out.below g1)
  clear g1 K1 O1
  go_wp2_with (at_builtin; refine wpList_append_own _ rfl _ _ 146 rfl (w.heap.size + 1) 149 i0 _ 2 32 Tryd.underlying146 hi hz0 hz1 hz2 rfl (by decide) _ _ _ rfl (World.ownsRow.alloc O2.out _) ⟨w2.heap.size, 0, none⟩ 1 1 [.string ⟨#[44, 32]⟩, .string O] rfl rfl (cell_newL w2 [.string ⟨#[44, 32]⟩, .string O] 149) (by simp [Value.oneCell']) (by unfold maxLen; omega) (by omega) (by have := K2.out.lt; simp; omega) ?_; intro v3 w3 hown hgrow _; have O3 : Hid (OwnL w3 (w.heap.size + 1) v3 2 [.string ⟨#[]⟩, .string F, .string ⟨#[44, 32]⟩, .string O]) := Lib.hid hown; have K3 := Lib.hid ((K2.out.alloc (.cells #[.string ⟨#[44, 32]⟩, .string O] 149 (0, 0))).grown hgrow (fun q hq => (World.ownsRow.lt O2.out q hq).1)); clear hown hgrow; have kx := K3.out.1.fifteen; obtain ⟨x0, x1, x2, x3, x4, x5, x6, x7, x8, x9, x10, x11, x12, x13, x14, xf⟩ := kx)
  refine (HG.out _ K3.out.2).mono ?_
  rintro e w4 ⟨rfl, g1⟩
  clear x0 x1 x2 x3 x4 x5 x6 x7 x8 x9 x10 x11 x12 x13 x14 xf
  have K4 := Lib.hid (K3.out.below g1)
  have O4 := Lib.hid (O3.out.below g1)
  clear g1 K3 O3
  go_wp2_with (at_builtin; refine wpList_append_own _ rfl _ _ 146 rfl (w.heap.size + 1) 149 i0 _ 2 32 Tryd.underlying146 hi hz0 hz1 hz2 rfl (by decide) _ _ _ rfl (World.ownsRow.alloc O4.out _) ⟨w4.heap.size, 0, none⟩ 1 1 [.string ⟨#[32, 99, 104, 97, 114, 103, 101, 100, 32, 119, 105, 116, 104, 32]⟩, .string G] rfl rfl (cell_newL w4 [.string ⟨#[32, 99, 104, 97, 114, 103, 101, 100, 32, 119, 105, 116, 104, 32]⟩, .string G] 149) (by simp [Value.oneCell']) (by unfold maxLen; omega) (by omega) (by have := K4.out.lt; simp; omega) ?_; intro v5 w5 hown hgrow _; have O5 : Hid (OwnL w5 (w.heap.size + 1) v5 3 [.string ⟨#[]⟩, .string F, .string ⟨#[44, 32]⟩, .string O, .string ⟨#[32, 99, 104, 97, 114, 103, 101, 100, 32, 119, 105, 116, 104, 32]⟩, .string G]) := Lib.hid hown; have K5 := Lib.hid ((K4.out.alloc (.cells #[.string ⟨#[32, 99, 104, 97, 114, 103, 101, 100, 32, 119, 105, 116, 104, 32]⟩, .string G] 149 (0, 0))).grown hgrow (fun q hq => (World.ownsRow.lt O4.out q hq).1)); clear hown hgrow; have kx := K5.out.1.fifteen; obtain ⟨x0, x1, x2, x3, x4, x5, x6, x7, x8, x9, x10, x11, x12, x13, x14, xf⟩ := kx)
  refine (HG'.out _ K5.out.2).mono ?_
  rintro e w6 ⟨rfl, g1⟩
  clear x0 x1 x2 x3 x4 x5 x6 x7 x8 x9 x10 x11 x12 x13 x14 xf
  have K6 := Lib.hid (K5.out.below g1)
  have O6 := Lib.hid (O5.out.below g1)
  clear g1 K5 O5
  have kx := K6.out.1.fifteen
  obtain ⟨x0, x1, x2, x3, x4, x5, x6, x7, x8, x9, x10, x11, x12, x13, x14, xf⟩ := kx
  go_wp2_with fail
  refine (HJ.out _).mono ?_
  rintro e w_ ⟨rfl, rfl⟩
  clear x0 x1 x2 x3 x4 x5 x6 x7 x8 x9 x10 x11 x12 x13 x14 xf
  go_wp2_with (at_builtin; refine wpList_append_own _ rfl _ _ 146 rfl (w.heap.size + 1) 149 i0 _ 2 32 Tryd.underlying146 hi hz0 hz1 hz2 rfl (by decide) _ _ _ rfl (World.ownsRow.alloc O6.out _) ⟨w6.heap.size, 0, none⟩ 1 1 [.string J, .string G'] rfl rfl (cell_newL w6 [.string J, .string G'] 149) (by simp [Value.oneCell']) (by unfold maxLen; omega) (by omega) (by have := K6.out.lt; simp; omega) ?_; intro v7 w7 hown hgrow _; have O7 : Hid (OwnL w7 (w.heap.size + 1) v7 4 [.string ⟨#[]⟩, .string F, .string ⟨#[44, 32]⟩, .string O, .string ⟨#[32, 99, 104, 97, 114, 103, 101, 100, 32, 119, 105, 116, 104, 32]⟩, .string G, .string J, .string G']) := Lib.hid hown; have K7 := Lib.hid ((K6.out.alloc (.cells #[.string J, .string G'] 149 (0, 0))).grown hgrow (fun q hq => (World.ownsRow.lt O6.out q hq).1)); clear hown hgrow; have kx := K7.out.1.fifteen; obtain ⟨x0, x1, x2, x3, x4, x5, x6, x7, x8, x9, x10, x11, x12, x13, x14, xf⟩ := kx)
  go_ret
  exact ⟨_, rfl, O7.out, K7.out.2⟩
end Go.Proofs.YtgoelkgdjnhklaaDoor
