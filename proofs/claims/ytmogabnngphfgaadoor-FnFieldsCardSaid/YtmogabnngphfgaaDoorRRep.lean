/- Contracts: slices.Repeat of two ints, three times; the program's parts of a field. -/
import Derived.Test.YtmogabnngphfgaaDoorRFields
import Derived.Test.YtmogabnngphfgaaDoorShelf
import Derived.Laws.CopyOwn
import Derived.LoopN
namespace Go.Proofs.YtmogabnngphfgaaDoor
open Go.RowKit

set_option maxRecDepth 100000 in
set_option maxHeartbeats 2000000 in
theorem repeat2 (a b : Int) (x : Option Addr) (cap : Nat) (w : World) (h : RdI w x 2 [a, b]) :
    Calls Tryd.prog 36 #[.slice x 2 cap, .int .i64 3] w (AnsL w [a, b, a, b, a, b]) := by
  obtain ⟨bk, o, rfl, hlt, g⟩ := h.2 (by decide)
  have g0 : w.cell? ⟨bk, o, none⟩ = some (.int .i64 a) := g 0 (by decide)
  have g1 : w.cell? ⟨bk, o + 1, none⟩ = some (.int .i64 b) := g 1 (by decide)
  clear g h
  have hmk : ∀ W, (Instr.makeSlice 36 (.int .i64 6) (.int .i64 6)).run Tryd.prog W = .ok (.slice (some ⟨W.heap.size, 0, none⟩) 6 6) (W.alloc (.cells #[.int .i64 0, .int .i64 0, .int .i64 0, .int .i64 0, .int .i64 0, .int .i64 0] 3 (0, 0))) := fun _ => by kernel_rfl
  have cm : ∀ W, Calls Tryd.prog 53 #[.int .u64 2, .int .u64 3] W fun e w' => e = .returned (.tuple #[.int .u64 0, .int .u64 6]) ∧ w' = W := fun W => Tryd.bits_Mul 2 3 (by decide) (by decide) W
  go_enter Tryd.func36, Tryd.ntmps36
  go_wp2_with (go_at_call 53; refine (cm _).mono ?_; rintro e w' ⟨rfl, rfl⟩)
  have cp : (Builtin.copy_ #[36, 36] 3 #[.slice (some ⟨w'.heap.size, 0, none⟩) 6 6, .slice (some ⟨bk, o, none⟩) 2 cap]).run Tryd.prog (w'.alloc (.cells #[.int .i64 0, .int .i64 0, .int .i64 0, .int .i64 0, .int .i64 0, .int .i64 0] 3 (0, 0))) = .ok (goInt 2) ((w'.alloc (.cells #[.int .i64 0, .int .i64 0, .int .i64 0, .int .i64 0, .int .i64 0, .int .i64 0] 3 (0, 0))).setRow w'.heap.size #[.int .i64 a, .int .i64 b, .int .i64 0, .int .i64 0, .int .i64 0, .int .i64 0]) := by
    refine run_copy_row Tryd.prog _ 36 36 3 3 w'.heap.size 0 6 6 ⟨bk, o, none⟩ 2 cap #[.int .i64 0, .int .i64 0, .int .i64 0, .int .i64 0, .int .i64 0, .int .i64 0] 3 [.int .i64 a, .int .i64 b] Tryd.underlying36 (by kernel_rfl) (by show (w'.heap.push _)[w'.heap.size]? = _; simp) rfl ?_ (by simp) ?_
    · intro j v hj
      match j, hj with
      | 0, hj => cases hj; rw [World.cell?_alloc_lt _ _ _ hlt]; exact g0
      | 1, hj => cases hj; rw [World.cell?_alloc_lt _ _ _ hlt]; exact g1
    · intro v hv
      simp at hv
      rcases hv with rfl | rfl <;> rfl
  rw [cp]
  simp only [Result.andThen]
  rw [Oper.upon_value]
  have hg1 : ((w'.alloc (.cells #[.int .i64 0, .int .i64 0, .int .i64 0, .int .i64 0, .int .i64 0, .int .i64 0] 3 (0, 0))).setRow w'.heap.size #[.int .i64 a, .int .i64 b, .int .i64 0, .int .i64 0, .int .i64 0, .int .i64 0]).heap[w'.heap.size]? = some (.cells #[.int .i64 a, .int .i64 b, .int .i64 0, .int .i64 0, .int .i64 0, .int .i64 0] 3 (0, 0)) :=
    setRow_heap _ _ _ _ _ _ (show (w'.heap.push _)[w'.heap.size]? = _ by simp; rfl)
  have hb1 : Below w'.heap.size w' ((w'.alloc (.cells #[.int .i64 0, .int .i64 0, .int .i64 0, .int .i64 0, .int .i64 0, .int .i64 0] 3 (0, 0))).setRow w'.heap.size #[.int .i64 a, .int .i64 b, .int .i64 0, .int .i64 0, .int .i64 0, .int .i64 0]) := below_setRow ((Below.refl _ _).alloc (Nat.le_refl _) _) (Nat.le_refl _) _
  clear cp g0 g1 hmk cm
  generalize (w'.alloc (.cells #[.int .i64 0, .int .i64 0, .int .i64 0, .int .i64 0, .int .i64 0, .int .i64 0] 3 (0, 0))).setRow w'.heap.size #[.int .i64 a, .int .i64 b, .int .i64 0, .int .i64 0, .int .i64 0, .int .i64 0] = W1 at *
  have HG1 := Lib.hid hg1
  have HB1 := Lib.hid hb1
  clear hg1 hb1
  go_wp2
  refine wp_loop_rounds 3 ?_
  rw [rounds_succ]
  go_wp2
  have hone : ∀ v ∈ [Value.int .i64 a, Value.int .i64 b], v.oneCell' = true := by
    intro v hv
    simp at hv
    rcases hv with rfl | rfl <;> rfl
  have hs1 : ∀ j v, [Value.int .i64 a, Value.int .i64 b][j]? = some v → W1.drew.cell? (Addr.add ⟨w'.heap.size, 0, none⟩ j) = some v := by
    intro j v hj
    have hg : W1.drew.heap[w'.heap.size]? = some (.cells #[.int .i64 a, .int .i64 b, .int .i64 0, .int .i64 0, .int .i64 0, .int .i64 0] 3 (0, 0)) := HG1.out
    match j, hj with
    | 0, hj => cases hj; rw [show Addr.add ⟨w'.heap.size, 0, none⟩ 0 = ⟨w'.heap.size, 0, none⟩ from rfl, Lib.cell_of_heap hg]; rfl
    | 1, hj => cases hj; rw [show Addr.add ⟨w'.heap.size, 0, none⟩ 1 = ⟨w'.heap.size, 1, none⟩ from rfl, Lib.cell_of_heap hg]; rfl
  have A1 := Lib.hid hone
  have A2 := Lib.hid hs1
  clear hone hs1
  go_region_law (refine step_copy_splice rfl _ _ 36 36 rfl 3 Tryd.underlying36 (by kernel_rfl) (some ⟨w'.heap.size, 2, none⟩) (some ⟨w'.heap.size, 0, none⟩) 4 4 2 6 (by simp [Act.eval, Act.put]) (by simp [Act.eval, Act.put]) w'.heap.size 2 [.int .i64 a, .int .i64 b, .int .i64 0, .int .i64 0, .int .i64 0, .int .i64 0] 3 HG1.out [.int .i64 a, .int .i64 b] rfl (fun _ => ⟨rfl, _, rfl, A2.out⟩) (by simp) A1.out w'.heap.size w' HB1.out.drew (Nat.le_refl _) ?_; intro W2 HG2 hB2)
  clear A1 A2 HG1 HB1
  have HG2' : Hid (W2.heap[w'.heap.size]? = some (.cells #[.int .i64 a, .int .i64 b, .int .i64 a, .int .i64 b, .int .i64 0, .int .i64 0] 3 (0, 0))) := Lib.hid HG2
  have HB2 := Lib.hid hB2
  clear HG2 hB2
  have e4 : IntKind.i64.wrap 4 = 4 := rfl
  go_wp2
  rw [rounds_succ]
  go_wp2
  have hone : ∀ v ∈ [Value.int .i64 a, Value.int .i64 b], v.oneCell' = true := by
    intro v hv
    simp at hv
    rcases hv with rfl | rfl <;> rfl
  have hs1 : ∀ j v, [Value.int .i64 a, Value.int .i64 b][j]? = some v → W2.drew.cell? (Addr.add ⟨w'.heap.size, 0, none⟩ j) = some v := by
    intro j v hj
    have hg : W2.drew.heap[w'.heap.size]? = some (.cells #[.int .i64 a, .int .i64 b, .int .i64 a, .int .i64 b, .int .i64 0, .int .i64 0] 3 (0, 0)) := HG2'.out
    match j, hj with
    | 0, hj => cases hj; rw [show Addr.add ⟨w'.heap.size, 0, none⟩ 0 = ⟨w'.heap.size, 0, none⟩ from rfl, Lib.cell_of_heap hg]; rfl
    | 1, hj => cases hj; rw [show Addr.add ⟨w'.heap.size, 0, none⟩ 1 = ⟨w'.heap.size, 1, none⟩ from rfl, Lib.cell_of_heap hg]; rfl
  have A1 := Lib.hid hone
  have A2 := Lib.hid hs1
  clear hone hs1
  go_region_law (refine step_copy_splice rfl _ _ 36 36 rfl 3 Tryd.underlying36 (by kernel_rfl) (some ⟨w'.heap.size, 4, none⟩) (some ⟨w'.heap.size, 0, none⟩) 2 2 4 6 (by simp [Act.eval, Act.put]) (by simp [Act.eval, Act.put]) w'.heap.size 4 [.int .i64 a, .int .i64 b, .int .i64 a, .int .i64 b, .int .i64 0, .int .i64 0] 3 HG2'.out [.int .i64 a, .int .i64 b] rfl (fun _ => ⟨rfl, _, rfl, A2.out⟩) (by simp) A1.out w'.heap.size w' HB2.out.drew (Nat.le_refl _) ?_; intro W3 HG3 hB3)
  clear A1 A2 HG2' HB2
  have HG3' : Hid (W3.heap[w'.heap.size]? = some (.cells #[.int .i64 a, .int .i64 b, .int .i64 a, .int .i64 b, .int .i64 a, .int .i64 b] 3 (0, 0))) := Lib.hid HG3
  have HB3 := Lib.hid hB3
  clear HG3 hB3
  have e6 : IntKind.i64.wrap 6 = 6 := rfl
  go_wp2
  rw [rounds_succ]
  go_wp2
  go_ret
  exact ⟨_, _, rfl, ⟨rfl, .inr ⟨_, 6, _, rfl, Nat.le_refl _, HG3'.out, by simp, by decide, rfl, rfl⟩⟩, HB3.out⟩
set_option maxRecDepth 100000 in
set_option maxHeartbeats 2000000 in
theorem fieldParts_impl (d l f s : Int) (w : World) (h : FOk d l f s) :
    Calls Tryd.prog 15 #[.agg #[.int .i64 d, .int .i64 l, .int .i64 f, .int .i64 s]] w (Ans w (partL d f s) true) := by
  have c := fun W => fieldTinctures_impl d l f s W h
  have hd := h.1
  clear h
  rcases (show d = 0 ∨ d = 1 ∨ d = 2 ∨ d = 3 ∨ d = 4 ∨ d = 5 ∨ d = 6 ∨ d = 7 by omega) with rfl | rfl | rfl | rfl | rfl | rfl | rfl | rfl
  all_goals
    clear hd
    first
      | rw [tincL_0 rfl] at c
      | rw [tincL_1 (by decide)] at c
    go_enter Tryd.func15, Tryd.ntmps15
    go_wp2_with fail
    refine (c _).mono ?_
    rintro e w1 ⟨xa, ka, rfl, ho, hb⟩
    obtain ⟨hc, hf⟩ := bcell hb
    have B := Lib.hid (((Below.refl _ w).alloc (Nat.le_refl _) _).trans (hb.mono (by simp)))
    have HO := Lib.hid ho
    have HO2 := Lib.hid (ho.low (Nat.le_trans (Nat.le_succ _) (by simp) : w.heap.size ≤ _))
    clear hb c ho
    go_wp2_with (go_at_call 36; refine (repeat2 f s _ _ _ HO.out.rd).mono ?_; rintro e w2 ⟨xb, kb, rfl, ho2, hb2⟩)
    go_ret2
    first
      | exact ans_at true [f, s, s, f] (by simp) B.out rfl
      | exact ⟨_, _, rfl, HO2.out, B.out⟩
      | exact ⟨_, _, rfl, ho2.low B.out.size, B.out.trans (hb2.mono B.out.size)⟩
theorem fieldParts_impl_no (d l f s : Int) (w : World) (h : ¬ FOk d l f s) :
    Calls Tryd.prog 15 #[.agg #[.int .i64 d, .int .i64 l, .int .i64 f, .int .i64 s]] w (Ans w [] false) := by
  have c := fun W => fieldTinctures_impl_no d l f s W h
  clear h
  go_enter Tryd.func15, Tryd.ntmps15
  go_wp2_with fail
  refine (c _).mono ?_
  rintro e w1 ⟨xa, ka, rfl, ho, hb⟩
  have B := Lib.hid (((Below.refl _ w).alloc (Nat.le_refl _) _).trans (hb.mono (by simp)))
  clear hb c
  go_wp2_with fail
  go_ret2
  exact ans_below (ans_nil _ false) B.out
end Go.Proofs.YtmogabnngphfgaaDoor
