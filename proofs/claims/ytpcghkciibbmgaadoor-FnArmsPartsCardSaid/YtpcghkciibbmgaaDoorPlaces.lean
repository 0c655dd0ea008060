/- Contract: the places of the tinctures behind the field of a draft: a slice of pointers. -/
import Derived.Test.YtpcghkciibbmgaaDoorArms
import Derived.Test.YtpcghkciibbmgaaDoorEqAgg
import Derived.Test.YtpcghkciibbmgaaDoorAgainst
import Derived.ArgAppend
import Derived.Laws.AppendOwnNone
import Derived.RegionTactic
import Derived.Deep.AppendLies
namespace Go.Proofs.YtpcghkciibbmgaaDoor
open Go.RowKit

theorem infoP5 : (Tryd.prog.info? 63).map (fun i => (i.zero, i.size, i.bytes)) = some (some (.pointer none), 1, 8) := by kernel_rfl
/-- Pointers at these cells of block b. -/
def ptrs (b : Nat) (L : List Nat) : List Value := L.map fun i => .pointer (some ⟨b, i, none⟩)
/-- The answer: a slice of the call's own with pointers at these cells of block b. -/
def Places (w : World) (b : Nat) (L : List Nat) (e : Ending) (w' : World) : Prop := ∃ ao cap, e = .returned (.slice ao L.length cap) ∧ w'.ownsRow w.heap.size 63 1 (.slice ao L.length cap) L.length (ptrs b L) ∧ (L = [] → ao = none ∧ cap = 0) ∧ Below w.heap.size w w'
theorem placesAre {w w' : World} {b : Nat} {v : Value} {L : List Nat} {xs : List Value} {n : Nat} (hxs : xs = ptrs b L) (hn : n = L.length) (hpos : 0 < n) (h : w'.ownsRow w.heap.size 63 1 v n xs) (hb : Below w.heap.size w w') : Places w b L (.returned v) w' := by
  subst hxs hn
  obtain ⟨g, cp, rfl, _, _⟩ := World.ownsRow.form h hpos
  exact ⟨_, _, rfl, h, fun e => by subst e; simp at hpos, hb⟩
set_option maxRecDepth 100000 in
set_option maxHeartbeats 4000000 in
theorem further_fff (d l f s o n x c k a t c' k' a' t' : Int) (b : Nat) (w : World) (h : BoxF w b [.int .i64 d, .int .i64 l, .int .i64 f, .int .i64 s, .int .i64 o, .int .i64 n, .int .i64 x, .int .i64 c, .int .i64 k, .int .i64 a, .int .i64 t, .int .i64 c', .int .i64 k', .int .i64 a', .int .i64 t'] 60) (e0 : (o != 0) = true) (e1 : gNoB c k a t = false) (e2 : gNoB c' k' a' t' = false) :
    Calls Tryd.prog 38 #[.pointer (some ⟨b, 0, none⟩)] w (Places w b [6, 10, 14]) := by
  obtain ⟨i0, hi, hz0, hz1, hz2⟩ := info_parts infoP5
  have RN1 : ∀ W, (binOp .neq 27 (.agg #[.int .i64 c, .int .i64 k, .int .i64 a, .int .i64 t]) (.agg #[.int .i64 0, .int .i64 0, .int .i64 0, .int .i64 0])).run Tryd.prog W = .ok (.bool true) W := fun W => by rw [neGroup_run, show decide (c = 0 ∧ k = 0 ∧ a = 0 ∧ t = 0) = false from e1]; rfl
  have RN2 : ∀ W, (binOp .neq 27 (.agg #[.int .i64 c', .int .i64 k', .int .i64 a', .int .i64 t']) (.agg #[.int .i64 0, .int .i64 0, .int .i64 0, .int .i64 0])).run Tryd.prog W = .ok (.bool true) W := fun W => by rw [neGroup_run, show decide (c' = 0 ∧ k' = 0 ∧ a' = 0 ∧ t' = 0) = false from e2]; rfl
  have hlt := h.lt
  have H0 := Lib.hid h
  have HR1 := Lib.hid RN1
  have HR2 := Lib.hid RN2
  clear e1 e2 RN1 RN2
  obtain ⟨x0, x1, x2, x3, x4, x5, x6, x7, x8, x9, x10, x11, x12, x13, x14, xf⟩ := h.fifteen
  clear h
  go_enter Tryd.func38, Tryd.ntmps38
  go_wp2_with (at_builtin; refine wpList_append_own _ rfl _ _ 61 rfl w.heap.size 63 i0 (.pointer none) 1 8 Tryd.underlying61 hi hz0 hz1 hz2 rfl (by decide) _ _ _ rfl (World.ownsRow_nil _ _ _ _) ⟨w.heap.size, 0, none⟩ 1 1 [.pointer (some ⟨b, 6, none⟩)] rfl rfl (cell_one_new _ _ _) (fun u hu => by simp at hu; subst hu; rfl) (by unfold maxLen; omega) (by omega) (by simp) ?_; intro v1 u1 hown1 hgr_ _; have hgr1 : (w.alloc (.cells #[.pointer (some ⟨b, 6, none⟩)] 63 (0, 0))).grownBy u1 none := hgr_; clear hgr_)
  have BX1 := Lib.hid ((H0.out.alloc _).kept hgr1 (by simp))
  have BB1 := Lib.hid (((Below.refl _ w).alloc (Nat.le_refl _) _).grown hgr1 (by simp) (fun q hq => by cases hq))
  have HO1 : Hid (u1.ownsRow w.heap.size 63 1 v1 1 ([.pointer (some ⟨b, 6, none⟩)])) := Lib.hid hown1
  obtain ⟨g1, cp1, rfl, hge1, hlt1⟩ := World.ownsRow.form hown1 (by omega)
  clear hown1 hgr1
  clear x0 x1 x2 x3 x4 x5 x6 x7 x8 x9 x10 x11 x12 x13 x14 xf
  go_region
  have BP2 : Hid (BoxF (u1.alloc (.cells #[.pointer (some ⟨b, 7, none⟩), .pointer (some ⟨b, 11, none⟩)] 79 (0, 0))).drew u1.heap.size [.pointer (some ⟨b, 7, none⟩), .pointer (some ⟨b, 11, none⟩)] 79) := Lib.hid (BoxF.new u1 [.pointer (some ⟨b, 7, none⟩), .pointer (some ⟨b, 11, none⟩)] 79)
  have BX2 : Hid (BoxF (u1.alloc (.cells #[.pointer (some ⟨b, 7, none⟩), .pointer (some ⟨b, 11, none⟩)] 79 (0, 0))).drew b [.int .i64 d, .int .i64 l, .int .i64 f, .int .i64 s, .int .i64 o, .int .i64 n, .int .i64 x, .int .i64 c, .int .i64 k, .int .i64 a, .int .i64 t, .int .i64 c', .int .i64 k', .int .i64 a', .int .i64 t'] 60) := Lib.hid (BX1.out.alloc (.cells #[.pointer (some ⟨b, 7, none⟩), .pointer (some ⟨b, 11, none⟩)] 79 (0, 0)))
  have BB2 : Hid (Below w.heap.size w (u1.alloc (.cells #[.pointer (some ⟨b, 7, none⟩), .pointer (some ⟨b, 11, none⟩)] 79 (0, 0))).drew) := Lib.hid (BB1.out.alloc BB1.out.size (.cells #[.pointer (some ⟨b, 7, none⟩), .pointer (some ⟨b, 11, none⟩)] 79 (0, 0))).drew
  have HO2 : Hid ((u1.alloc (.cells #[.pointer (some ⟨b, 7, none⟩), .pointer (some ⟨b, 11, none⟩)] 79 (0, 0))).drew.ownsRow w.heap.size 63 1 (.slice (some ⟨g1, 0, none⟩) 1 cp1) 1 [.pointer (some ⟨b, 6, none⟩)]) := Lib.hid (HO1.out.alloc (.cells #[.pointer (some ⟨b, 7, none⟩), .pointer (some ⟨b, 11, none⟩)] 79 (0, 0)))
  clear BX1 BB1 HO1
  obtain ⟨P, hP⟩ : ∃ P, u1.heap.size = P := ⟨_, rfl⟩
  rw [hP] at BP2
  generalize (u1.alloc (.cells #[.pointer (some ⟨b, 7, none⟩), .pointer (some ⟨b, 11, none⟩)] 79 (0, 0))).drew = W2 at *
  have RN1 := HR1.out
  have RN2 := HR2.out
  have p0 := BP2.out.at 0
  have p1 := BP2.out.at 1
  obtain ⟨x0, x1, x2, x3, x4, x5, x6, x7, x8, x9, x10, x11, x12, x13, x14, xf⟩ := BX2.out.fifteen
  go_wp2_with fail
  refine wp_loop_rounds 3 ?_
  rw [rounds_succ]
  go_wp2_with (at_builtin; refine wpList_append_own _ rfl _ _ 61 rfl w.heap.size 63 i0 (.pointer none) 1 8 Tryd.underlying61 hi hz0 hz1 hz2 rfl (by decide) _ _ _ rfl (HO2.out.alloc _) ⟨W2.heap.size, 0, none⟩ 1 1 [.pointer (some ⟨b, 10, none⟩)] rfl rfl (cell_one_new _ _ _) (fun u hu => by simp at hu; subst hu; rfl) (by unfold maxLen; omega) (by omega) (by have := BB2.out.size; simp; omega) ?_; intro v3 u3 hown_ hgr_ _; have hgr3 : (W2.alloc (.cells #[.pointer (some ⟨b, 10, none⟩)] 63 (0, 0))).grownBy u3 (some g1) := hgr_; have hown3 : u3.ownsRow w.heap.size 63 1 v3 2 [.pointer (some ⟨b, 6, none⟩), .pointer (some ⟨b, 10, none⟩)] := hown_; clear hown_ hgr_; obtain ⟨g3, cp3, rfl, hge3, hlt3⟩ := World.ownsRow.form hown3 (by omega))
  clear x0 x1 x2 x3 x4 x5 x6 x7 x8 x9 x10 x11 x12 x13 x14 xf
  clear p0 p1
  have BX3 := Lib.hid ((BX2.out.alloc _).kept hgr3 (by first | (simp; done) | (simp; omega)))
  have BB3 := Lib.hid ((BB2.out.alloc BB2.out.size _).grown hgr3 (by have := BB2.out.size; simp; omega) (fun q hq => by first | (cases hq; omega) | (cases hq; done)))
  have HO3 := Lib.hid hown3
  have BP3 := Lib.hid ((BP2.out.alloc _).kept hgr3 (by first | (simp; done) | (simp; omega)))
  have p0 := BP3.out.at 0
  have p1 := BP3.out.at 1
  obtain ⟨x0, x1, x2, x3, x4, x5, x6, x7, x8, x9, x10, x11, x12, x13, x14, xf⟩ := BX3.out.fifteen
  clear hgr3 hown3
  rw [rounds_succ]
  go_wp2_with (at_builtin; refine wpList_append_own _ rfl _ _ 61 rfl w.heap.size 63 i0 (.pointer none) 1 8 Tryd.underlying61 hi hz0 hz1 hz2 rfl (by decide) _ _ _ rfl (HO3.out.alloc _) ⟨u3.heap.size, 0, none⟩ 1 1 [.pointer (some ⟨b, 14, none⟩)] rfl rfl (cell_one_new _ _ _) (fun u hu => by simp at hu; subst hu; rfl) (by unfold maxLen; omega) (by omega) (by have := BB3.out.size; simp; omega) ?_; intro v4 u4 hown_ hgr_ _; have hgr4 : (u3.alloc (.cells #[.pointer (some ⟨b, 14, none⟩)] 63 (0, 0))).grownBy u4 (some g3) := hgr_; have hown4 : u4.ownsRow w.heap.size 63 1 v4 3 [.pointer (some ⟨b, 6, none⟩), .pointer (some ⟨b, 10, none⟩), .pointer (some ⟨b, 14, none⟩)] := hown_; clear hown_ hgr_; obtain ⟨g4, cp4, rfl, hge4, hlt4⟩ := World.ownsRow.form hown4 (by omega))
  clear x0 x1 x2 x3 x4 x5 x6 x7 x8 x9 x10 x11 x12 x13 x14 xf
  clear p0 p1
  have BX4 := Lib.hid ((BX3.out.alloc _).kept hgr4 (by first | (simp; done) | (simp; omega)))
  have BB4 := Lib.hid ((BB3.out.alloc BB3.out.size _).grown hgr4 (by have := BB3.out.size; simp; omega) (fun q hq => by first | (cases hq; omega) | (cases hq; done)))
  have HO4 := Lib.hid hown4
  clear hgr4 hown4
  rw [rounds_succ]
  go_wp2_with fail
  go_ret
  exact placesAre rfl rfl (by decide) HO4.out BB4.out
set_option maxRecDepth 100000 in
set_option maxHeartbeats 4000000 in
theorem further_fft (d l f s o n x c k a t c' k' a' t' : Int) (b : Nat) (w : World) (h : BoxF w b [.int .i64 d, .int .i64 l, .int .i64 f, .int .i64 s, .int .i64 o, .int .i64 n, .int .i64 x, .int .i64 c, .int .i64 k, .int .i64 a, .int .i64 t, .int .i64 c', .int .i64 k', .int .i64 a', .int .i64 t'] 60) (e0 : (o != 0) = true) (e1 : gNoB c k a t = false) (e2 : gNoB c' k' a' t' = true) :
    Calls Tryd.prog 38 #[.pointer (some ⟨b, 0, none⟩)] w (Places w b [6, 10]) := by
  obtain ⟨i0, hi, hz0, hz1, hz2⟩ := info_parts infoP5
  have RN1 : ∀ W, (binOp .neq 27 (.agg #[.int .i64 c, .int .i64 k, .int .i64 a, .int .i64 t]) (.agg #[.int .i64 0, .int .i64 0, .int .i64 0, .int .i64 0])).run Tryd.prog W = .ok (.bool true) W := fun W => by rw [neGroup_run, show decide (c = 0 ∧ k = 0 ∧ a = 0 ∧ t = 0) = false from e1]; rfl
  have RN2 : ∀ W, (binOp .neq 27 (.agg #[.int .i64 c', .int .i64 k', .int .i64 a', .int .i64 t']) (.agg #[.int .i64 0, .int .i64 0, .int .i64 0, .int .i64 0])).run Tryd.prog W = .ok (.bool false) W := fun W => by rw [neGroup_run, show decide (c' = 0 ∧ k' = 0 ∧ a' = 0 ∧ t' = 0) = true from e2]; rfl
  have hlt := h.lt
  have H0 := Lib.hid h
  have HR1 := Lib.hid RN1
  have HR2 := Lib.hid RN2
  clear e1 e2 RN1 RN2
  obtain ⟨x0, x1, x2, x3, x4, x5, x6, x7, x8, x9, x10, x11, x12, x13, x14, xf⟩ := h.fifteen
  clear h
  go_enter Tryd.func38, Tryd.ntmps38
  go_wp2_with (at_builtin; refine wpList_append_own _ rfl _ _ 61 rfl w.heap.size 63 i0 (.pointer none) 1 8 Tryd.underlying61 hi hz0 hz1 hz2 rfl (by decide) _ _ _ rfl (World.ownsRow_nil _ _ _ _) ⟨w.heap.size, 0, none⟩ 1 1 [.pointer (some ⟨b, 6, none⟩)] rfl rfl (cell_one_new _ _ _) (fun u hu => by simp at hu; subst hu; rfl) (by unfold maxLen; omega) (by omega) (by simp) ?_; intro v1 u1 hown1 hgr_ _; have hgr1 : (w.alloc (.cells #[.pointer (some ⟨b, 6, none⟩)] 63 (0, 0))).grownBy u1 none := hgr_; clear hgr_)
  have BX1 := Lib.hid ((H0.out.alloc _).kept hgr1 (by simp))
  have BB1 := Lib.hid (((Below.refl _ w).alloc (Nat.le_refl _) _).grown hgr1 (by simp) (fun q hq => by cases hq))
  have HO1 : Hid (u1.ownsRow w.heap.size 63 1 v1 1 ([.pointer (some ⟨b, 6, none⟩)])) := Lib.hid hown1
  obtain ⟨g1, cp1, rfl, hge1, hlt1⟩ := World.ownsRow.form hown1 (by omega)
  clear hown1 hgr1
  clear x0 x1 x2 x3 x4 x5 x6 x7 x8 x9 x10 x11 x12 x13 x14 xf
  go_region
  have BP2 : Hid (BoxF (u1.alloc (.cells #[.pointer (some ⟨b, 7, none⟩), .pointer (some ⟨b, 11, none⟩)] 79 (0, 0))).drew u1.heap.size [.pointer (some ⟨b, 7, none⟩), .pointer (some ⟨b, 11, none⟩)] 79) := Lib.hid (BoxF.new u1 [.pointer (some ⟨b, 7, none⟩), .pointer (some ⟨b, 11, none⟩)] 79)
  have BX2 : Hid (BoxF (u1.alloc (.cells #[.pointer (some ⟨b, 7, none⟩), .pointer (some ⟨b, 11, none⟩)] 79 (0, 0))).drew b [.int .i64 d, .int .i64 l, .int .i64 f, .int .i64 s, .int .i64 o, .int .i64 n, .int .i64 x, .int .i64 c, .int .i64 k, .int .i64 a, .int .i64 t, .int .i64 c', .int .i64 k', .int .i64 a', .int .i64 t'] 60) := Lib.hid (BX1.out.alloc (.cells #[.pointer (some ⟨b, 7, none⟩), .pointer (some ⟨b, 11, none⟩)] 79 (0, 0)))
  have BB2 : Hid (Below w.heap.size w (u1.alloc (.cells #[.pointer (some ⟨b, 7, none⟩), .pointer (some ⟨b, 11, none⟩)] 79 (0, 0))).drew) := Lib.hid (BB1.out.alloc BB1.out.size (.cells #[.pointer (some ⟨b, 7, none⟩), .pointer (some ⟨b, 11, none⟩)] 79 (0, 0))).drew
  have HO2 : Hid ((u1.alloc (.cells #[.pointer (some ⟨b, 7, none⟩), .pointer (some ⟨b, 11, none⟩)] 79 (0, 0))).drew.ownsRow w.heap.size 63 1 (.slice (some ⟨g1, 0, none⟩) 1 cp1) 1 [.pointer (some ⟨b, 6, none⟩)]) := Lib.hid (HO1.out.alloc (.cells #[.pointer (some ⟨b, 7, none⟩), .pointer (some ⟨b, 11, none⟩)] 79 (0, 0)))
  clear BX1 BB1 HO1
  obtain ⟨P, hP⟩ : ∃ P, u1.heap.size = P := ⟨_, rfl⟩
  rw [hP] at BP2
  generalize (u1.alloc (.cells #[.pointer (some ⟨b, 7, none⟩), .pointer (some ⟨b, 11, none⟩)] 79 (0, 0))).drew = W2 at *
  have RN1 := HR1.out
  have RN2 := HR2.out
  have p0 := BP2.out.at 0
  have p1 := BP2.out.at 1
  obtain ⟨x0, x1, x2, x3, x4, x5, x6, x7, x8, x9, x10, x11, x12, x13, x14, xf⟩ := BX2.out.fifteen
  go_wp2_with fail
  refine wp_loop_rounds 3 ?_
  rw [rounds_succ]
  go_wp2_with (at_builtin; refine wpList_append_own _ rfl _ _ 61 rfl w.heap.size 63 i0 (.pointer none) 1 8 Tryd.underlying61 hi hz0 hz1 hz2 rfl (by decide) _ _ _ rfl (HO2.out.alloc _) ⟨W2.heap.size, 0, none⟩ 1 1 [.pointer (some ⟨b, 10, none⟩)] rfl rfl (cell_one_new _ _ _) (fun u hu => by simp at hu; subst hu; rfl) (by unfold maxLen; omega) (by omega) (by have := BB2.out.size; simp; omega) ?_; intro v3 u3 hown_ hgr_ _; have hgr3 : (W2.alloc (.cells #[.pointer (some ⟨b, 10, none⟩)] 63 (0, 0))).grownBy u3 (some g1) := hgr_; have hown3 : u3.ownsRow w.heap.size 63 1 v3 2 [.pointer (some ⟨b, 6, none⟩), .pointer (some ⟨b, 10, none⟩)] := hown_; clear hown_ hgr_; obtain ⟨g3, cp3, rfl, hge3, hlt3⟩ := World.ownsRow.form hown3 (by omega))
  clear x0 x1 x2 x3 x4 x5 x6 x7 x8 x9 x10 x11 x12 x13 x14 xf
  clear p0 p1
  have BX3 := Lib.hid ((BX2.out.alloc _).kept hgr3 (by first | (simp; done) | (simp; omega)))
  have BB3 := Lib.hid ((BB2.out.alloc BB2.out.size _).grown hgr3 (by have := BB2.out.size; simp; omega) (fun q hq => by first | (cases hq; omega) | (cases hq; done)))
  have HO3 := Lib.hid hown3
  have BP3 := Lib.hid ((BP2.out.alloc _).kept hgr3 (by first | (simp; done) | (simp; omega)))
  have p0 := BP3.out.at 0
  have p1 := BP3.out.at 1
  obtain ⟨x0, x1, x2, x3, x4, x5, x6, x7, x8, x9, x10, x11, x12, x13, x14, xf⟩ := BX3.out.fifteen
  clear hgr3 hown3
  rw [rounds_succ]
  go_wp2_with fail
  rw [rounds_succ]
  go_wp2_with fail
  go_ret
  exact placesAre rfl rfl (by decide) HO3.out BB3.out
set_option maxRecDepth 100000 in
set_option maxHeartbeats 4000000 in
theorem further_ftf (d l f s o n x c k a t c' k' a' t' : Int) (b : Nat) (w : World) (h : BoxF w b [.int .i64 d, .int .i64 l, .int .i64 f, .int .i64 s, .int .i64 o, .int .i64 n, .int .i64 x, .int .i64 c, .int .i64 k, .int .i64 a, .int .i64 t, .int .i64 c', .int .i64 k', .int .i64 a', .int .i64 t'] 60) (e0 : (o != 0) = true) (e1 : gNoB c k a t = true) (e2 : gNoB c' k' a' t' = false) :
    Calls Tryd.prog 38 #[.pointer (some ⟨b, 0, none⟩)] w (Places w b [6, 14]) := by
  obtain ⟨i0, hi, hz0, hz1, hz2⟩ := info_parts infoP5
  have RN1 : ∀ W, (binOp .neq 27 (.agg #[.int .i64 c, .int .i64 k, .int .i64 a, .int .i64 t]) (.agg #[.int .i64 0, .int .i64 0, .int .i64 0, .int .i64 0])).run Tryd.prog W = .ok (.bool false) W := fun W => by rw [neGroup_run, show decide (c = 0 ∧ k = 0 ∧ a = 0 ∧ t = 0) = true from e1]; rfl
  have RN2 : ∀ W, (binOp .neq 27 (.agg #[.int .i64 c', .int .i64 k', .int .i64 a', .int .i64 t']) (.agg #[.int .i64 0, .int .i64 0, .int .i64 0, .int .i64 0])).run Tryd.prog W = .ok (.bool true) W := fun W => by rw [neGroup_run, show decide (c' = 0 ∧ k' = 0 ∧ a' = 0 ∧ t' = 0) = false from e2]; rfl
  have hlt := h.lt
  have H0 := Lib.hid h
  have HR1 := Lib.hid RN1
  have HR2 := Lib.hid RN2
  clear e1 e2 RN1 RN2
  obtain ⟨x0, x1, x2, x3, x4, x5, x6, x7, x8, x9, x10, x11, x12, x13, x14, xf⟩ := h.fifteen
  clear h
  go_enter Tryd.func38, Tryd.ntmps38
  go_wp2_with (at_builtin; refine wpList_append_own _ rfl _ _ 61 rfl w.heap.size 63 i0 (.pointer none) 1 8 Tryd.underlying61 hi hz0 hz1 hz2 rfl (by decide) _ _ _ rfl (World.ownsRow_nil _ _ _ _) ⟨w.heap.size, 0, none⟩ 1 1 [.pointer (some ⟨b, 6, none⟩)] rfl rfl (cell_one_new _ _ _) (fun u hu => by simp at hu; subst hu; rfl) (by unfold maxLen; omega) (by omega) (by simp) ?_; intro v1 u1 hown1 hgr_ _; have hgr1 : (w.alloc (.cells #[.pointer (some ⟨b, 6, none⟩)] 63 (0, 0))).grownBy u1 none := hgr_; clear hgr_)
  have BX1 := Lib.hid ((H0.out.alloc _).kept hgr1 (by simp))
  have BB1 := Lib.hid (((Below.refl _ w).alloc (Nat.le_refl _) _).grown hgr1 (by simp) (fun q hq => by cases hq))
  have HO1 : Hid (u1.ownsRow w.heap.size 63 1 v1 1 ([.pointer (some ⟨b, 6, none⟩)])) := Lib.hid hown1
  obtain ⟨g1, cp1, rfl, hge1, hlt1⟩ := World.ownsRow.form hown1 (by omega)
  clear hown1 hgr1
  clear x0 x1 x2 x3 x4 x5 x6 x7 x8 x9 x10 x11 x12 x13 x14 xf
  go_region
  have BP2 : Hid (BoxF (u1.alloc (.cells #[.pointer (some ⟨b, 7, none⟩), .pointer (some ⟨b, 11, none⟩)] 79 (0, 0))).drew u1.heap.size [.pointer (some ⟨b, 7, none⟩), .pointer (some ⟨b, 11, none⟩)] 79) := Lib.hid (BoxF.new u1 [.pointer (some ⟨b, 7, none⟩), .pointer (some ⟨b, 11, none⟩)] 79)
  have BX2 : Hid (BoxF (u1.alloc (.cells #[.pointer (some ⟨b, 7, none⟩), .pointer (some ⟨b, 11, none⟩)] 79 (0, 0))).drew b [.int .i64 d, .int .i64 l, .int .i64 f, .int .i64 s, .int .i64 o, .int .i64 n, .int .i64 x, .int .i64 c, .int .i64 k, .int .i64 a, .int .i64 t, .int .i64 c', .int .i64 k', .int .i64 a', .int .i64 t'] 60) := Lib.hid (BX1.out.alloc (.cells #[.pointer (some ⟨b, 7, none⟩), .pointer (some ⟨b, 11, none⟩)] 79 (0, 0)))
  have BB2 : Hid (Below w.heap.size w (u1.alloc (.cells #[.pointer (some ⟨b, 7, none⟩), .pointer (some ⟨b, 11, none⟩)] 79 (0, 0))).drew) := Lib.hid (BB1.out.alloc BB1.out.size (.cells #[.pointer (some ⟨b, 7, none⟩), .pointer (some ⟨b, 11, none⟩)] 79 (0, 0))).drew
  have HO2 : Hid ((u1.alloc (.cells #[.pointer (some ⟨b, 7, none⟩), .pointer (some ⟨b, 11, none⟩)] 79 (0, 0))).drew.ownsRow w.heap.size 63 1 (.slice (some ⟨g1, 0, none⟩) 1 cp1) 1 [.pointer (some ⟨b, 6, none⟩)]) := Lib.hid (HO1.out.alloc (.cells #[.pointer (some ⟨b, 7, none⟩), .pointer (some ⟨b, 11, none⟩)] 79 (0, 0)))
  clear BX1 BB1 HO1
  obtain ⟨P, hP⟩ : ∃ P, u1.heap.size = P := ⟨_, rfl⟩
  rw [hP] at BP2
  generalize (u1.alloc (.cells #[.pointer (some ⟨b, 7, none⟩), .pointer (some ⟨b, 11, none⟩)] 79 (0, 0))).drew = W2 at *
  have RN1 := HR1.out
  have RN2 := HR2.out
  have p0 := BP2.out.at 0
  have p1 := BP2.out.at 1
  obtain ⟨x0, x1, x2, x3, x4, x5, x6, x7, x8, x9, x10, x11, x12, x13, x14, xf⟩ := BX2.out.fifteen
  go_wp2_with fail
  refine wp_loop_rounds 3 ?_
  rw [rounds_succ]
  go_wp2_with fail
  rw [rounds_succ]
  go_wp2_with (at_builtin; refine wpList_append_own _ rfl _ _ 61 rfl w.heap.size 63 i0 (.pointer none) 1 8 Tryd.underlying61 hi hz0 hz1 hz2 rfl (by decide) _ _ _ rfl (HO2.out.alloc _) ⟨W2.heap.size, 0, none⟩ 1 1 [.pointer (some ⟨b, 14, none⟩)] rfl rfl (cell_one_new _ _ _) (fun u hu => by simp at hu; subst hu; rfl) (by unfold maxLen; omega) (by omega) (by have := BB2.out.size; simp; omega) ?_; intro v3 u3 hown_ hgr_ _; have hgr3 : (W2.alloc (.cells #[.pointer (some ⟨b, 14, none⟩)] 63 (0, 0))).grownBy u3 (some g1) := hgr_; have hown3 : u3.ownsRow w.heap.size 63 1 v3 2 [.pointer (some ⟨b, 6, none⟩), .pointer (some ⟨b, 14, none⟩)] := hown_; clear hown_ hgr_; obtain ⟨g3, cp3, rfl, hge3, hlt3⟩ := World.ownsRow.form hown3 (by omega))
  clear x0 x1 x2 x3 x4 x5 x6 x7 x8 x9 x10 x11 x12 x13 x14 xf
  clear p0 p1
  have BX3 := Lib.hid ((BX2.out.alloc _).kept hgr3 (by first | (simp; done) | (simp; omega)))
  have BB3 := Lib.hid ((BB2.out.alloc BB2.out.size _).grown hgr3 (by have := BB2.out.size; simp; omega) (fun q hq => by first | (cases hq; omega) | (cases hq; done)))
  have HO3 := Lib.hid hown3
  clear hgr3 hown3
  rw [rounds_succ]
  go_wp2_with fail
  go_ret
  exact placesAre rfl rfl (by decide) HO3.out BB3.out
set_option maxRecDepth 100000 in
set_option maxHeartbeats 4000000 in
theorem further_ftt (d l f s o n x c k a t c' k' a' t' : Int) (b : Nat) (w : World) (h : BoxF w b [.int .i64 d, .int .i64 l, .int .i64 f, .int .i64 s, .int .i64 o, .int .i64 n, .int .i64 x, .int .i64 c, .int .i64 k, .int .i64 a, .int .i64 t, .int .i64 c', .int .i64 k', .int .i64 a', .int .i64 t'] 60) (e0 : (o != 0) = true) (e1 : gNoB c k a t = true) (e2 : gNoB c' k' a' t' = true) :
    Calls Tryd.prog 38 #[.pointer (some ⟨b, 0, none⟩)] w (Places w b [6]) := by
  obtain ⟨i0, hi, hz0, hz1, hz2⟩ := info_parts infoP5
  have RN1 : ∀ W, (binOp .neq 27 (.agg #[.int .i64 c, .int .i64 k, .int .i64 a, .int .i64 t]) (.agg #[.int .i64 0, .int .i64 0, .int .i64 0, .int .i64 0])).run Tryd.prog W = .ok (.bool false) W := fun W => by rw [neGroup_run, show decide (c = 0 ∧ k = 0 ∧ a = 0 ∧ t = 0) = true from e1]; rfl
  have RN2 : ∀ W, (binOp .neq 27 (.agg #[.int .i64 c', .int .i64 k', .int .i64 a', .int .i64 t']) (.agg #[.int .i64 0, .int .i64 0, .int .i64 0, .int .i64 0])).run Tryd.prog W = .ok (.bool false) W := fun W => by rw [neGroup_run, show decide (c' = 0 ∧ k' = 0 ∧ a' = 0 ∧ t' = 0) = true from e2]; rfl
  have hlt := h.lt
  have H0 := Lib.hid h
  have HR1 := Lib.hid RN1
  have HR2 := Lib.hid RN2
  clear e1 e2 RN1 RN2
  obtain ⟨x0, x1, x2, x3, x4, x5, x6, x7, x8, x9, x10, x11, x12, x13, x14, xf⟩ := h.fifteen
  clear h
  go_enter Tryd.func38, Tryd.ntmps38
  go_wp2_with (at_builtin; refine wpList_append_own _ rfl _ _ 61 rfl w.heap.size 63 i0 (.pointer none) 1 8 Tryd.underlying61 hi hz0 hz1 hz2 rfl (by decide) _ _ _ rfl (World.ownsRow_nil _ _ _ _) ⟨w.heap.size, 0, none⟩ 1 1 [.pointer (some ⟨b, 6, none⟩)] rfl rfl (cell_one_new _ _ _) (fun u hu => by simp at hu; subst hu; rfl) (by unfold maxLen; omega) (by omega) (by simp) ?_; intro v1 u1 hown1 hgr_ _; have hgr1 : (w.alloc (.cells #[.pointer (some ⟨b, 6, none⟩)] 63 (0, 0))).grownBy u1 none := hgr_; clear hgr_)
  have BX1 := Lib.hid ((H0.out.alloc _).kept hgr1 (by simp))
  have BB1 := Lib.hid (((Below.refl _ w).alloc (Nat.le_refl _) _).grown hgr1 (by simp) (fun q hq => by cases hq))
  have HO1 : Hid (u1.ownsRow w.heap.size 63 1 v1 1 ([.pointer (some ⟨b, 6, none⟩)])) := Lib.hid hown1
  obtain ⟨g1, cp1, rfl, hge1, hlt1⟩ := World.ownsRow.form hown1 (by omega)
  clear hown1 hgr1
  clear x0 x1 x2 x3 x4 x5 x6 x7 x8 x9 x10 x11 x12 x13 x14 xf
  go_region
  have BP2 : Hid (BoxF (u1.alloc (.cells #[.pointer (some ⟨b, 7, none⟩), .pointer (some ⟨b, 11, none⟩)] 79 (0, 0))).drew u1.heap.size [.pointer (some ⟨b, 7, none⟩), .pointer (some ⟨b, 11, none⟩)] 79) := Lib.hid (BoxF.new u1 [.pointer (some ⟨b, 7, none⟩), .pointer (some ⟨b, 11, none⟩)] 79)
  have BX2 : Hid (BoxF (u1.alloc (.cells #[.pointer (some ⟨b, 7, none⟩), .pointer (some ⟨b, 11, none⟩)] 79 (0, 0))).drew b [.int .i64 d, .int .i64 l, .int .i64 f, .int .i64 s, .int .i64 o, .int .i64 n, .int .i64 x, .int .i64 c, .int .i64 k, .int .i64 a, .int .i64 t, .int .i64 c', .int .i64 k', .int .i64 a', .int .i64 t'] 60) := Lib.hid (BX1.out.alloc (.cells #[.pointer (some ⟨b, 7, none⟩), .pointer (some ⟨b, 11, none⟩)] 79 (0, 0)))
  have BB2 : Hid (Below w.heap.size w (u1.alloc (.cells #[.pointer (some ⟨b, 7, none⟩), .pointer (some ⟨b, 11, none⟩)] 79 (0, 0))).drew) := Lib.hid (BB1.out.alloc BB1.out.size (.cells #[.pointer (some ⟨b, 7, none⟩), .pointer (some ⟨b, 11, none⟩)] 79 (0, 0))).drew
  have HO2 : Hid ((u1.alloc (.cells #[.pointer (some ⟨b, 7, none⟩), .pointer (some ⟨b, 11, none⟩)] 79 (0, 0))).drew.ownsRow w.heap.size 63 1 (.slice (some ⟨g1, 0, none⟩) 1 cp1) 1 [.pointer (some ⟨b, 6, none⟩)]) := Lib.hid (HO1.out.alloc (.cells #[.pointer (some ⟨b, 7, none⟩), .pointer (some ⟨b, 11, none⟩)] 79 (0, 0)))
  clear BX1 BB1 HO1
  obtain ⟨P, hP⟩ : ∃ P, u1.heap.size = P := ⟨_, rfl⟩
  rw [hP] at BP2
  generalize (u1.alloc (.cells #[.pointer (some ⟨b, 7, none⟩), .pointer (some ⟨b, 11, none⟩)] 79 (0, 0))).drew = W2 at *
  have RN1 := HR1.out
  have RN2 := HR2.out
  have p0 := BP2.out.at 0
  have p1 := BP2.out.at 1
  obtain ⟨x0, x1, x2, x3, x4, x5, x6, x7, x8, x9, x10, x11, x12, x13, x14, xf⟩ := BX2.out.fifteen
  go_wp2_with fail
  refine wp_loop_rounds 3 ?_
  rw [rounds_succ]
  go_wp2_with fail
  rw [rounds_succ]
  go_wp2_with fail
  rw [rounds_succ]
  go_wp2_with fail
  go_ret
  exact placesAre rfl rfl (by decide) HO2.out BB2.out
set_option maxRecDepth 100000 in
set_option maxHeartbeats 4000000 in
theorem further_tff (d l f s o n x c k a t c' k' a' t' : Int) (b : Nat) (w : World) (h : BoxF w b [.int .i64 d, .int .i64 l, .int .i64 f, .int .i64 s, .int .i64 o, .int .i64 n, .int .i64 x, .int .i64 c, .int .i64 k, .int .i64 a, .int .i64 t, .int .i64 c', .int .i64 k', .int .i64 a', .int .i64 t'] 60) (e0 : (o != 0) = false) (e1 : gNoB c k a t = false) (e2 : gNoB c' k' a' t' = false) :
    Calls Tryd.prog 38 #[.pointer (some ⟨b, 0, none⟩)] w (Places w b [10, 14]) := by
  obtain ⟨i0, hi, hz0, hz1, hz2⟩ := info_parts infoP5
  have RN1 : ∀ W, (binOp .neq 27 (.agg #[.int .i64 c, .int .i64 k, .int .i64 a, .int .i64 t]) (.agg #[.int .i64 0, .int .i64 0, .int .i64 0, .int .i64 0])).run Tryd.prog W = .ok (.bool true) W := fun W => by rw [neGroup_run, show decide (c = 0 ∧ k = 0 ∧ a = 0 ∧ t = 0) = false from e1]; rfl
  have RN2 : ∀ W, (binOp .neq 27 (.agg #[.int .i64 c', .int .i64 k', .int .i64 a', .int .i64 t']) (.agg #[.int .i64 0, .int .i64 0, .int .i64 0, .int .i64 0])).run Tryd.prog W = .ok (.bool true) W := fun W => by rw [neGroup_run, show decide (c' = 0 ∧ k' = 0 ∧ a' = 0 ∧ t' = 0) = false from e2]; rfl
  have hlt := h.lt
  have H0 := Lib.hid h
  have HR1 := Lib.hid RN1
  have HR2 := Lib.hid RN2
  clear e1 e2 RN1 RN2
  obtain ⟨x0, x1, x2, x3, x4, x5, x6, x7, x8, x9, x10, x11, x12, x13, x14, xf⟩ := h.fifteen
  clear h
  go_enter Tryd.func38, Tryd.ntmps38
  go_wp2_with fail
  have BX1 := H0
  have BB1 := Lib.hid (Below.refl w.heap.size w)
  have HO1 : Hid (w.ownsRow w.heap.size 63 1 (.slice none 0 0) 0 []) := Lib.hid (World.ownsRow_nil _ _ _ _)
  clear x0 x1 x2 x3 x4 x5 x6 x7 x8 x9 x10 x11 x12 x13 x14 xf
  go_region
  have BP2 : Hid (BoxF (w.alloc (.cells #[.pointer (some ⟨b, 7, none⟩), .pointer (some ⟨b, 11, none⟩)] 79 (0, 0))).drew w.heap.size [.pointer (some ⟨b, 7, none⟩), .pointer (some ⟨b, 11, none⟩)] 79) := Lib.hid (BoxF.new w [.pointer (some ⟨b, 7, none⟩), .pointer (some ⟨b, 11, none⟩)] 79)
  have BX2 : Hid (BoxF (w.alloc (.cells #[.pointer (some ⟨b, 7, none⟩), .pointer (some ⟨b, 11, none⟩)] 79 (0, 0))).drew b [.int .i64 d, .int .i64 l, .int .i64 f, .int .i64 s, .int .i64 o, .int .i64 n, .int .i64 x, .int .i64 c, .int .i64 k, .int .i64 a, .int .i64 t, .int .i64 c', .int .i64 k', .int .i64 a', .int .i64 t'] 60) := Lib.hid (BX1.out.alloc (.cells #[.pointer (some ⟨b, 7, none⟩), .pointer (some ⟨b, 11, none⟩)] 79 (0, 0)))
  have BB2 : Hid (Below w.heap.size w (w.alloc (.cells #[.pointer (some ⟨b, 7, none⟩), .pointer (some ⟨b, 11, none⟩)] 79 (0, 0))).drew) := Lib.hid (BB1.out.alloc BB1.out.size (.cells #[.pointer (some ⟨b, 7, none⟩), .pointer (some ⟨b, 11, none⟩)] 79 (0, 0))).drew
  have HO2 : Hid ((w.alloc (.cells #[.pointer (some ⟨b, 7, none⟩), .pointer (some ⟨b, 11, none⟩)] 79 (0, 0))).drew.ownsRow w.heap.size 63 1 (.slice none 0 0) 0 []) := Lib.hid (HO1.out.alloc (.cells #[.pointer (some ⟨b, 7, none⟩), .pointer (some ⟨b, 11, none⟩)] 79 (0, 0)))
  clear BX1 BB1 HO1
  obtain ⟨P, hP⟩ : ∃ P, w.heap.size = P := ⟨_, rfl⟩
  rw [hP] at BP2
  generalize (w.alloc (.cells #[.pointer (some ⟨b, 7, none⟩), .pointer (some ⟨b, 11, none⟩)] 79 (0, 0))).drew = W2 at *
  have RN1 := HR1.out
  have RN2 := HR2.out
  have p0 := BP2.out.at 0
  have p1 := BP2.out.at 1
  obtain ⟨x0, x1, x2, x3, x4, x5, x6, x7, x8, x9, x10, x11, x12, x13, x14, xf⟩ := BX2.out.fifteen
  go_wp2_with fail
  refine wp_loop_rounds 3 ?_
  rw [rounds_succ]
  go_wp2_with (at_builtin; refine wpList_append_own _ rfl _ _ 61 rfl w.heap.size 63 i0 (.pointer none) 1 8 Tryd.underlying61 hi hz0 hz1 hz2 rfl (by decide) _ _ _ rfl (HO2.out.alloc _) ⟨W2.heap.size, 0, none⟩ 1 1 [.pointer (some ⟨b, 10, none⟩)] rfl rfl (cell_one_new _ _ _) (fun u hu => by simp at hu; subst hu; rfl) (by unfold maxLen; omega) (by omega) (by have := BB2.out.size; simp; omega) ?_; intro v3 u3 hown_ hgr_ _; have hgr3 : (W2.alloc (.cells #[.pointer (some ⟨b, 10, none⟩)] 63 (0, 0))).grownBy u3 none := hgr_; have hown3 : u3.ownsRow w.heap.size 63 1 v3 1 [.pointer (some ⟨b, 10, none⟩)] := hown_; clear hown_ hgr_; obtain ⟨g3, cp3, rfl, hge3, hlt3⟩ := World.ownsRow.form hown3 (by omega))
  clear x0 x1 x2 x3 x4 x5 x6 x7 x8 x9 x10 x11 x12 x13 x14 xf
  clear p0 p1
  have BX3 := Lib.hid ((BX2.out.alloc _).kept hgr3 (by first | (simp; done) | (simp; omega)))
  have BB3 := Lib.hid ((BB2.out.alloc BB2.out.size _).grown hgr3 (by have := BB2.out.size; simp; omega) (fun q hq => by first | (cases hq; omega) | (cases hq; done)))
  have HO3 := Lib.hid hown3
  have BP3 := Lib.hid ((BP2.out.alloc _).kept hgr3 (by first | (simp; done) | (simp; omega)))
  have p0 := BP3.out.at 0
  have p1 := BP3.out.at 1
  obtain ⟨x0, x1, x2, x3, x4, x5, x6, x7, x8, x9, x10, x11, x12, x13, x14, xf⟩ := BX3.out.fifteen
  clear hgr3 hown3
  rw [rounds_succ]
  go_wp2_with (at_builtin; refine wpList_append_own _ rfl _ _ 61 rfl w.heap.size 63 i0 (.pointer none) 1 8 Tryd.underlying61 hi hz0 hz1 hz2 rfl (by decide) _ _ _ rfl (HO3.out.alloc _) ⟨u3.heap.size, 0, none⟩ 1 1 [.pointer (some ⟨b, 14, none⟩)] rfl rfl (cell_one_new _ _ _) (fun u hu => by simp at hu; subst hu; rfl) (by unfold maxLen; omega) (by omega) (by have := BB3.out.size; simp; omega) ?_; intro v4 u4 hown_ hgr_ _; have hgr4 : (u3.alloc (.cells #[.pointer (some ⟨b, 14, none⟩)] 63 (0, 0))).grownBy u4 (some g3) := hgr_; have hown4 : u4.ownsRow w.heap.size 63 1 v4 2 [.pointer (some ⟨b, 10, none⟩), .pointer (some ⟨b, 14, none⟩)] := hown_; clear hown_ hgr_; obtain ⟨g4, cp4, rfl, hge4, hlt4⟩ := World.ownsRow.form hown4 (by omega))
  clear x0 x1 x2 x3 x4 x5 x6 x7 x8 x9 x10 x11 x12 x13 x14 xf
  clear p0 p1
  have BX4 := Lib.hid ((BX3.out.alloc _).kept hgr4 (by first | (simp; done) | (simp; omega)))
  have BB4 := Lib.hid ((BB3.out.alloc BB3.out.size _).grown hgr4 (by have := BB3.out.size; simp; omega) (fun q hq => by first | (cases hq; omega) | (cases hq; done)))
  have HO4 := Lib.hid hown4
  clear hgr4 hown4
  rw [rounds_succ]
  go_wp2_with fail
  go_ret
  exact placesAre rfl rfl (by decide) HO4.out BB4.out
set_option maxRecDepth 100000 in
set_option maxHeartbeats 4000000 in
theorem further_tft (d l f s o n x c k a t c' k' a' t' : Int) (b : Nat) (w : World) (h : BoxF w b [.int .i64 d, .int .i64 l, .int .i64 f, .int .i64 s, .int .i64 o, .int .i64 n, .int .i64 x, .int .i64 c, .int .i64 k, .int .i64 a, .int .i64 t, .int .i64 c', .int .i64 k', .int .i64 a', .int .i64 t'] 60) (e0 : (o != 0) = false) (e1 : gNoB c k a t = false) (e2 : gNoB c' k' a' t' = true) :
    Calls Tryd.prog 38 #[.pointer (some ⟨b, 0, none⟩)] w (Places w b [10]) := by
  obtain ⟨i0, hi, hz0, hz1, hz2⟩ := info_parts infoP5
  have RN1 : ∀ W, (binOp .neq 27 (.agg #[.int .i64 c, .int .i64 k, .int .i64 a, .int .i64 t]) (.agg #[.int .i64 0, .int .i64 0, .int .i64 0, .int .i64 0])).run Tryd.prog W = .ok (.bool true) W := fun W => by rw [neGroup_run, show decide (c = 0 ∧ k = 0 ∧ a = 0 ∧ t = 0) = false from e1]; rfl
  have RN2 : ∀ W, (binOp .neq 27 (.agg #[.int .i64 c', .int .i64 k', .int .i64 a', .int .i64 t']) (.agg #[.int .i64 0, .int .i64 0, .int .i64 0, .int .i64 0])).run Tryd.prog W = .ok (.bool false) W := fun W => by rw [neGroup_run, show decide (c' = 0 ∧ k' = 0 ∧ a' = 0 ∧ t' = 0) = true from e2]; rfl
  have hlt := h.lt
  have H0 := Lib.hid h
  have HR1 := Lib.hid RN1
  have HR2 := Lib.hid RN2
  clear e1 e2 RN1 RN2
  obtain ⟨x0, x1, x2, x3, x4, x5, x6, x7, x8, x9, x10, x11, x12, x13, x14, xf⟩ := h.fifteen
  clear h
  go_enter Tryd.func38, Tryd.ntmps38
  go_wp2_with fail
  have BX1 := H0
  have BB1 := Lib.hid (Below.refl w.heap.size w)
  have HO1 : Hid (w.ownsRow w.heap.size 63 1 (.slice none 0 0) 0 []) := Lib.hid (World.ownsRow_nil _ _ _ _)
  clear x0 x1 x2 x3 x4 x5 x6 x7 x8 x9 x10 x11 x12 x13 x14 xf
  go_region
  have BP2 : Hid (BoxF (w.alloc (.cells #[.pointer (some ⟨b, 7, none⟩), .pointer (some ⟨b, 11, none⟩)] 79 (0, 0))).drew w.heap.size [.pointer (some ⟨b, 7, none⟩), .pointer (some ⟨b, 11, none⟩)] 79) := Lib.hid (BoxF.new w [.pointer (some ⟨b, 7, none⟩), .pointer (some ⟨b, 11, none⟩)] 79)
  have BX2 : Hid (BoxF (w.alloc (.cells #[.pointer (some ⟨b, 7, none⟩), .pointer (some ⟨b, 11, none⟩)] 79 (0, 0))).drew b [.int .i64 d, .int .i64 l, .int .i64 f, .int .i64 s, .int .i64 o, .int .i64 n, .int .i64 x, .int .i64 c, .int .i64 k, .int .i64 a, .int .i64 t, .int .i64 c', .int .i64 k', .int .i64 a', .int .i64 t'] 60) := Lib.hid (BX1.out.alloc (.cells #[.pointer (some ⟨b, 7, none⟩), .pointer (some ⟨b, 11, none⟩)] 79 (0, 0)))
  have BB2 : Hid (Below w.heap.size w (w.alloc (.cells #[.pointer (some ⟨b, 7, none⟩), .pointer (some ⟨b, 11, none⟩)] 79 (0, 0))).drew) := Lib.hid (BB1.out.alloc BB1.out.size (.cells #[.pointer (some ⟨b, 7, none⟩), .pointer (some ⟨b, 11, none⟩)] 79 (0, 0))).drew
  have HO2 : Hid ((w.alloc (.cells #[.pointer (some ⟨b, 7, none⟩), .pointer (some ⟨b, 11, none⟩)] 79 (0, 0))).drew.ownsRow w.heap.size 63 1 (.slice none 0 0) 0 []) := Lib.hid (HO1.out.alloc (.cells #[.pointer (some ⟨b, 7, none⟩), .pointer (some ⟨b, 11, none⟩)] 79 (0, 0)))
  clear BX1 BB1 HO1
  obtain ⟨P, hP⟩ : ∃ P, w.heap.size = P := ⟨_, rfl⟩
  rw [hP] at BP2
  generalize (w.alloc (.cells #[.pointer (some ⟨b, 7, none⟩), .pointer (some ⟨b, 11, none⟩)] 79 (0, 0))).drew = W2 at *
  have RN1 := HR1.out
  have RN2 := HR2.out
  have p0 := BP2.out.at 0
  have p1 := BP2.out.at 1
  obtain ⟨x0, x1, x2, x3, x4, x5, x6, x7, x8, x9, x10, x11, x12, x13, x14, xf⟩ := BX2.out.fifteen
  go_wp2_with fail
  refine wp_loop_rounds 3 ?_
  rw [rounds_succ]
  go_wp2_with (at_builtin; refine wpList_append_own _ rfl _ _ 61 rfl w.heap.size 63 i0 (.pointer none) 1 8 Tryd.underlying61 hi hz0 hz1 hz2 rfl (by decide) _ _ _ rfl (HO2.out.alloc _) ⟨W2.heap.size, 0, none⟩ 1 1 [.pointer (some ⟨b, 10, none⟩)] rfl rfl (cell_one_new _ _ _) (fun u hu => by simp at hu; subst hu; rfl) (by unfold maxLen; omega) (by omega) (by have := BB2.out.size; simp; omega) ?_; intro v3 u3 hown_ hgr_ _; have hgr3 : (W2.alloc (.cells #[.pointer (some ⟨b, 10, none⟩)] 63 (0, 0))).grownBy u3 none := hgr_; have hown3 : u3.ownsRow w.heap.size 63 1 v3 1 [.pointer (some ⟨b, 10, none⟩)] := hown_; clear hown_ hgr_; obtain ⟨g3, cp3, rfl, hge3, hlt3⟩ := World.ownsRow.form hown3 (by omega))
  clear x0 x1 x2 x3 x4 x5 x6 x7 x8 x9 x10 x11 x12 x13 x14 xf
  clear p0 p1
  have BX3 := Lib.hid ((BX2.out.alloc _).kept hgr3 (by first | (simp; done) | (simp; omega)))
  have BB3 := Lib.hid ((BB2.out.alloc BB2.out.size _).grown hgr3 (by have := BB2.out.size; simp; omega) (fun q hq => by first | (cases hq; omega) | (cases hq; done)))
  have HO3 := Lib.hid hown3
  have BP3 := Lib.hid ((BP2.out.alloc _).kept hgr3 (by first | (simp; done) | (simp; omega)))
  have p0 := BP3.out.at 0
  have p1 := BP3.out.at 1
  obtain ⟨x0, x1, x2, x3, x4, x5, x6, x7, x8, x9, x10, x11, x12, x13, x14, xf⟩ := BX3.out.fifteen
  clear hgr3 hown3
  rw [rounds_succ]
  go_wp2_with fail
  rw [rounds_succ]
  go_wp2_with fail
  go_ret
  exact placesAre rfl rfl (by decide) HO3.out BB3.out
set_option maxRecDepth 100000 in
set_option maxHeartbeats 4000000 in
theorem further_ttf (d l f s o n x c k a t c' k' a' t' : Int) (b : Nat) (w : World) (h : BoxF w b [.int .i64 d, .int .i64 l, .int .i64 f, .int .i64 s, .int .i64 o, .int .i64 n, .int .i64 x, .int .i64 c, .int .i64 k, .int .i64 a, .int .i64 t, .int .i64 c', .int .i64 k', .int .i64 a', .int .i64 t'] 60) (e0 : (o != 0) = false) (e1 : gNoB c k a t = true) (e2 : gNoB c' k' a' t' = false) :
    Calls Tryd.prog 38 #[.pointer (some ⟨b, 0, none⟩)] w (Places w b [14]) := by
  obtain ⟨i0, hi, hz0, hz1, hz2⟩ := info_parts infoP5
  have RN1 : ∀ W, (binOp .neq 27 (.agg #[.int .i64 c, .int .i64 k, .int .i64 a, .int .i64 t]) (.agg #[.int .i64 0, .int .i64 0, .int .i64 0, .int .i64 0])).run Tryd.prog W = .ok (.bool false) W := fun W => by rw [neGroup_run, show decide (c = 0 ∧ k = 0 ∧ a = 0 ∧ t = 0) = true from e1]; rfl
  have RN2 : ∀ W, (binOp .neq 27 (.agg #[.int .i64 c', .int .i64 k', .int .i64 a', .int .i64 t']) (.agg #[.int .i64 0, .int .i64 0, .int .i64 0, .int .i64 0])).run Tryd.prog W = .ok (.bool true) W := fun W => by rw [neGroup_run, show decide (c' = 0 ∧ k' = 0 ∧ a' = 0 ∧ t' = 0) = false from e2]; rfl
  have hlt := h.lt
  have H0 := Lib.hid h
  have HR1 := Lib.hid RN1
  have HR2 := Lib.hid RN2
  clear e1 e2 RN1 RN2
  obtain ⟨x0, x1, x2, x3, x4, x5, x6, x7, x8, x9, x10, x11, x12, x13, x14, xf⟩ := h.fifteen
  clear h
  go_enter Tryd.func38, Tryd.ntmps38
  go_wp2_with fail
  have BX1 := H0
  have BB1 := Lib.hid (Below.refl w.heap.size w)
  have HO1 : Hid (w.ownsRow w.heap.size 63 1 (.slice none 0 0) 0 []) := Lib.hid (World.ownsRow_nil _ _ _ _)
  clear x0 x1 x2 x3 x4 x5 x6 x7 x8 x9 x10 x11 x12 x13 x14 xf
  go_region
  have BP2 : Hid (BoxF (w.alloc (.cells #[.pointer (some ⟨b, 7, none⟩), .pointer (some ⟨b, 11, none⟩)] 79 (0, 0))).drew w.heap.size [.pointer (some ⟨b, 7, none⟩), .pointer (some ⟨b, 11, none⟩)] 79) := Lib.hid (BoxF.new w [.pointer (some ⟨b, 7, none⟩), .pointer (some ⟨b, 11, none⟩)] 79)
  have BX2 : Hid (BoxF (w.alloc (.cells #[.pointer (some ⟨b, 7, none⟩), .pointer (some ⟨b, 11, none⟩)] 79 (0, 0))).drew b [.int .i64 d, .int .i64 l, .int .i64 f, .int .i64 s, .int .i64 o, .int .i64 n, .int .i64 x, .int .i64 c, .int .i64 k, .int .i64 a, .int .i64 t, .int .i64 c', .int .i64 k', .int .i64 a', .int .i64 t'] 60) := Lib.hid (BX1.out.alloc (.cells #[.pointer (some ⟨b, 7, none⟩), .pointer (some ⟨b, 11, none⟩)] 79 (0, 0)))
  have BB2 : Hid (Below w.heap.size w (w.alloc (.cells #[.pointer (some ⟨b, 7, none⟩), .pointer (some ⟨b, 11, none⟩)] 79 (0, 0))).drew) := Lib.hid (BB1.out.alloc BB1.out.size (.cells #[.pointer (some ⟨b, 7, none⟩), .pointer (some ⟨b, 11, none⟩)] 79 (0, 0))).drew
  have HO2 : Hid ((w.alloc (.cells #[.pointer (some ⟨b, 7, none⟩), .pointer (some ⟨b, 11, none⟩)] 79 (0, 0))).drew.ownsRow w.heap.size 63 1 (.slice none 0 0) 0 []) := Lib.hid (HO1.out.alloc (.cells #[.pointer (some ⟨b, 7, none⟩), .pointer (some ⟨b, 11, none⟩)] 79 (0, 0)))
  clear BX1 BB1 HO1
  obtain ⟨P, hP⟩ : ∃ P, w.heap.size = P := ⟨_, rfl⟩
  rw [hP] at BP2
  generalize (w.alloc (.cells #[.pointer (some ⟨b, 7, none⟩), .pointer (some ⟨b, 11, none⟩)] 79 (0, 0))).drew = W2 at *
  have RN1 := HR1.out
  have RN2 := HR2.out
  have p0 := BP2.out.at 0
  have p1 := BP2.out.at 1
  obtain ⟨x0, x1, x2, x3, x4, x5, x6, x7, x8, x9, x10, x11, x12, x13, x14, xf⟩ := BX2.out.fifteen
  go_wp2_with fail
  refine wp_loop_rounds 3 ?_
  rw [rounds_succ]
  go_wp2_with fail
  rw [rounds_succ]
  go_wp2_with (at_builtin; refine wpList_append_own _ rfl _ _ 61 rfl w.heap.size 63 i0 (.pointer none) 1 8 Tryd.underlying61 hi hz0 hz1 hz2 rfl (by decide) _ _ _ rfl (HO2.out.alloc _) ⟨W2.heap.size, 0, none⟩ 1 1 [.pointer (some ⟨b, 14, none⟩)] rfl rfl (cell_one_new _ _ _) (fun u hu => by simp at hu; subst hu; rfl) (by unfold maxLen; omega) (by omega) (by have := BB2.out.size; simp; omega) ?_; intro v3 u3 hown_ hgr_ _; have hgr3 : (W2.alloc (.cells #[.pointer (some ⟨b, 14, none⟩)] 63 (0, 0))).grownBy u3 none := hgr_; have hown3 : u3.ownsRow w.heap.size 63 1 v3 1 [.pointer (some ⟨b, 14, none⟩)] := hown_; clear hown_ hgr_; obtain ⟨g3, cp3, rfl, hge3, hlt3⟩ := World.ownsRow.form hown3 (by omega))
  clear x0 x1 x2 x3 x4 x5 x6 x7 x8 x9 x10 x11 x12 x13 x14 xf
  clear p0 p1
  have BX3 := Lib.hid ((BX2.out.alloc _).kept hgr3 (by first | (simp; done) | (simp; omega)))
  have BB3 := Lib.hid ((BB2.out.alloc BB2.out.size _).grown hgr3 (by have := BB2.out.size; simp; omega) (fun q hq => by first | (cases hq; omega) | (cases hq; done)))
  have HO3 := Lib.hid hown3
  clear hgr3 hown3
  rw [rounds_succ]
  go_wp2_with fail
  go_ret
  exact placesAre rfl rfl (by decide) HO3.out BB3.out
set_option maxRecDepth 100000 in
set_option maxHeartbeats 4000000 in
theorem further_ttt (d l f s o n x c k a t c' k' a' t' : Int) (b : Nat) (w : World) (h : BoxF w b [.int .i64 d, .int .i64 l, .int .i64 f, .int .i64 s, .int .i64 o, .int .i64 n, .int .i64 x, .int .i64 c, .int .i64 k, .int .i64 a, .int .i64 t, .int .i64 c', .int .i64 k', .int .i64 a', .int .i64 t'] 60) (e0 : (o != 0) = false) (e1 : gNoB c k a t = true) (e2 : gNoB c' k' a' t' = true) :
    Calls Tryd.prog 38 #[.pointer (some ⟨b, 0, none⟩)] w (Places w b []) := by
  obtain ⟨i0, hi, hz0, hz1, hz2⟩ := info_parts infoP5
  have RN1 : ∀ W, (binOp .neq 27 (.agg #[.int .i64 c, .int .i64 k, .int .i64 a, .int .i64 t]) (.agg #[.int .i64 0, .int .i64 0, .int .i64 0, .int .i64 0])).run Tryd.prog W = .ok (.bool false) W := fun W => by rw [neGroup_run, show decide (c = 0 ∧ k = 0 ∧ a = 0 ∧ t = 0) = true from e1]; rfl
  have RN2 : ∀ W, (binOp .neq 27 (.agg #[.int .i64 c', .int .i64 k', .int .i64 a', .int .i64 t']) (.agg #[.int .i64 0, .int .i64 0, .int .i64 0, .int .i64 0])).run Tryd.prog W = .ok (.bool false) W := fun W => by rw [neGroup_run, show decide (c' = 0 ∧ k' = 0 ∧ a' = 0 ∧ t' = 0) = true from e2]; rfl
  have hlt := h.lt
  have H0 := Lib.hid h
  have HR1 := Lib.hid RN1
  have HR2 := Lib.hid RN2
  clear e1 e2 RN1 RN2
  obtain ⟨x0, x1, x2, x3, x4, x5, x6, x7, x8, x9, x10, x11, x12, x13, x14, xf⟩ := h.fifteen
  clear h
  go_enter Tryd.func38, Tryd.ntmps38
  go_wp2_with fail
  have BX1 := H0
  have BB1 := Lib.hid (Below.refl w.heap.size w)
  have HO1 : Hid (w.ownsRow w.heap.size 63 1 (.slice none 0 0) 0 []) := Lib.hid (World.ownsRow_nil _ _ _ _)
  clear x0 x1 x2 x3 x4 x5 x6 x7 x8 x9 x10 x11 x12 x13 x14 xf
  go_region
  have BP2 : Hid (BoxF (w.alloc (.cells #[.pointer (some ⟨b, 7, none⟩), .pointer (some ⟨b, 11, none⟩)] 79 (0, 0))).drew w.heap.size [.pointer (some ⟨b, 7, none⟩), .pointer (some ⟨b, 11, none⟩)] 79) := Lib.hid (BoxF.new w [.pointer (some ⟨b, 7, none⟩), .pointer (some ⟨b, 11, none⟩)] 79)
  have BX2 : Hid (BoxF (w.alloc (.cells #[.pointer (some ⟨b, 7, none⟩), .pointer (some ⟨b, 11, none⟩)] 79 (0, 0))).drew b [.int .i64 d, .int .i64 l, .int .i64 f, .int .i64 s, .int .i64 o, .int .i64 n, .int .i64 x, .int .i64 c, .int .i64 k, .int .i64 a, .int .i64 t, .int .i64 c', .int .i64 k', .int .i64 a', .int .i64 t'] 60) := Lib.hid (BX1.out.alloc (.cells #[.pointer (some ⟨b, 7, none⟩), .pointer (some ⟨b, 11, none⟩)] 79 (0, 0)))
  have BB2 : Hid (Below w.heap.size w (w.alloc (.cells #[.pointer (some ⟨b, 7, none⟩), .pointer (some ⟨b, 11, none⟩)] 79 (0, 0))).drew) := Lib.hid (BB1.out.alloc BB1.out.size (.cells #[.pointer (some ⟨b, 7, none⟩), .pointer (some ⟨b, 11, none⟩)] 79 (0, 0))).drew
  have HO2 : Hid ((w.alloc (.cells #[.pointer (some ⟨b, 7, none⟩), .pointer (some ⟨b, 11, none⟩)] 79 (0, 0))).drew.ownsRow w.heap.size 63 1 (.slice none 0 0) 0 []) := Lib.hid (HO1.out.alloc (.cells #[.pointer (some ⟨b, 7, none⟩), .pointer (some ⟨b, 11, none⟩)] 79 (0, 0)))
  clear BX1 BB1 HO1
  obtain ⟨P, hP⟩ : ∃ P, w.heap.size = P := ⟨_, rfl⟩
  rw [hP] at BP2
  generalize (w.alloc (.cells #[.pointer (some ⟨b, 7, none⟩), .pointer (some ⟨b, 11, none⟩)] 79 (0, 0))).drew = W2 at *
  have RN1 := HR1.out
  have RN2 := HR2.out
  have p0 := BP2.out.at 0
  have p1 := BP2.out.at 1
  obtain ⟨x0, x1, x2, x3, x4, x5, x6, x7, x8, x9, x10, x11, x12, x13, x14, xf⟩ := BX2.out.fifteen
  go_wp2_with fail
  refine wp_loop_rounds 3 ?_
  rw [rounds_succ]
  go_wp2_with fail
  rw [rounds_succ]
  go_wp2_with fail
  rw [rounds_succ]
  go_wp2_with fail
  go_ret
  exact ⟨none, 0, rfl, World.ownsRow_nil _ _ _ _, fun _ => ⟨rfl, rfl⟩, BB2.out⟩
/-- The cells of the tinctures behind the field. -/
def furtherL (z z1 z2 : Bool) : List Nat := (if z = true then [] else [6]) ++ (if z1 = true then [] else [10]) ++ (if z2 = true then [] else [14])
theorem further_any (d l f s o n x c k a t c' k' a' t' : Int) (b : Nat) (w : World) (h : BoxF w b [.int .i64 d, .int .i64 l, .int .i64 f, .int .i64 s, .int .i64 o, .int .i64 n, .int .i64 x, .int .i64 c, .int .i64 k, .int .i64 a, .int .i64 t, .int .i64 c', .int .i64 k', .int .i64 a', .int .i64 t'] 60) : Calls Tryd.prog 38 #[.pointer (some ⟨b, 0, none⟩)] w (Places w b (furtherL (o == 0) (gNoB c k a t) (gNoB c' k' a' t'))) := by
  rcases Bool.eq_false_or_eq_true (o == 0) with e0 | e0 <;> rcases Bool.eq_false_or_eq_true (gNoB c k a t) with e1 | e1 <;> rcases Bool.eq_false_or_eq_true (gNoB c' k' a' t') with e2 | e2
  all_goals
    have e3 : (o != 0) = !(o == 0) := rfl
    rw [e0] at e3
    rw [e0, e1, e2]
    first
      | exact further_fff _ _ _ _ _ _ _ _ _ _ _ _ _ _ _ b w h e3 e1 e2
      | exact further_fft _ _ _ _ _ _ _ _ _ _ _ _ _ _ _ b w h e3 e1 e2
      | exact further_ftf _ _ _ _ _ _ _ _ _ _ _ _ _ _ _ b w h e3 e1 e2
      | exact further_ftt _ _ _ _ _ _ _ _ _ _ _ _ _ _ _ b w h e3 e1 e2
      | exact further_tff _ _ _ _ _ _ _ _ _ _ _ _ _ _ _ b w h e3 e1 e2
      | exact further_tft _ _ _ _ _ _ _ _ _ _ _ _ _ _ _ b w h e3 e1 e2
      | exact further_ttf _ _ _ _ _ _ _ _ _ _ _ _ _ _ _ b w h e3 e1 e2
      | exact further_ttt _ _ _ _ _ _ _ _ _ _ _ _ _ _ _ b w h e3 e1 e2
end Go.Proofs.YtpcghkciibbmgaaDoor
