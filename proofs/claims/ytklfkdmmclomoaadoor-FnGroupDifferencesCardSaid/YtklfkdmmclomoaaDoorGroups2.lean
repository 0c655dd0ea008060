/- Contracts: the model's differences and sums of groups. -/
import Derived.Test.YtklfkdmmclomoaaDoorGroups
import Derived.Deep.RegionWith
namespace Go.Proofs.YtklfkdmmclomoaaDoor
open Go.RowKit

theorem box2e {w w1 : World} {o o' : Obj} (hb : Below ((w.alloc o).alloc o').drew.heap.size ((w.alloc o).alloc o').drew w1) : Below w.heap.size w w1 :=
  box2 (w := w) (o := o) (o' := o') (w1 := w1) ⟨hb.os, hb.tape, hb.output, hb.size, hb.block⟩
theorem Box.below_drew {w w' : World} {b : Nat} {L : List Value} (h : Box w b L) (hb : Below w.drew.heap.size w.drew w') : Box w' b L := Box.below (w := w.drew) h hb
/-- The number of differences between two groups. -/
def gdif (c k a t c' k' a' t' : Int) : Int := if gNoB c k a t = gNoB c' k' a' t' then (if c = c' then 0 else 1) + (if k = k' then (if a = a' then 0 else 1) else 2) + (if t = t' then 0 else 1) else 2
set_option maxHeartbeats 8000000 in
theorem l4Differences_any (c k a t c' k' a' t' : Int) (w : World) :
    Calls Tryd.prog 67 #[.agg #[.int .i64 c, .int .i64 k, .int .i64 a, .int .i64 t], .agg #[.int .i64 c', .int .i64 k', .int .i64 a', .int .i64 t']] w fun e w' => e = .returned (.int .i64 (gdif c k a t c' k' a' t')) ∧ Below w.heap.size w w' := by
  obtain ⟨n1, h1⟩ : ∃ n, gNoB c k a t = n := ⟨_, rfl⟩
  obtain ⟨n2, h2⟩ : ∃ n, gNoB c' k' a' t' = n := ⟨_, rfl⟩
  obtain ⟨p1, e1⟩ : ∃ p, (c != c') = p := ⟨_, rfl⟩
  obtain ⟨p2, e2⟩ : ∃ p, (k != k') = p := ⟨_, rfl⟩
  obtain ⟨p3, e3⟩ : ∃ p, (a != a') = p := ⟨_, rfl⟩
  obtain ⟨p4, e4⟩ : ∃ p, (t != t') = p := ⟨_, rfl⟩
  have ca := fun W => l4None_any c k a t W n1 h1
  have cb := fun W => l4None_any c' k' a' t' W n2 h2
  have hR : gdif c k a t c' k' a' t' = if n1 = n2 then (if p1 = true then 1 else 0) + (if p2 = true then 2 else (if p3 = true then 1 else 0)) + (if p4 = true then 1 else 0) else 2 := by
    unfold gdif
    rw [h1, h2, ← e1, ← e2, ← e3, ← e4]
    by_cases q1 : c = c' <;> by_cases q2 : k = k' <;> by_cases q3 : a = a' <;> by_cases q4 : t = t' <;> simp [q1, q2, q3, q4]
  rw [hR]
  have CA := Lib.hid ca
  have CB := Lib.hid cb
  clear ca cb hR h1 h2
  rcases n1 with _ | _ <;> rcases n2 with _ | _
  all_goals
    go_enter Tryd.func67, Tryd.ntmps67
    go_wp2_with fail
    go_region_with (first
      | (go_at_call 66; (with_reducible refine (CA.out _).mono ?_); rintro e w1 ⟨rfl, hba⟩; obtain ⟨hc, hf⟩ := bcell hba)
      | (go_at_call 66; (with_reducible refine (CB.out _).mono ?_); rintro e w2 ⟨rfl, hbb⟩))
    all_goals
      have X0 := (Box.new w [.int .i64 c, .int .i64 k, .int .i64 a, .int .i64 t] 25).alloc (.cells #[.int .i64 c', .int .i64 k', .int .i64 a', .int .i64 t'] 25 (0, 0))
      have Y0 := Box.new (w.alloc (.cells #[.int .i64 c, .int .i64 k, .int .i64 a, .int .i64 t] 25 (0, 0))) [.int .i64 c', .int .i64 k', .int .i64 a', .int .i64 t'] 25
      rw [World.size_alloc] at Y0
      have X1 : Box w1 w.heap.size [.int .i64 c, .int .i64 k, .int .i64 a, .int .i64 t] := by first | exact X0.below hba | exact X0.below_drew hba
      have Y1 : Box w1 (w.heap.size + 1) [.int .i64 c', .int .i64 k', .int .i64 a', .int .i64 t'] := by first | exact Y0.below hba | exact Y0.below_drew hba
      have X2 : Box w2 w.heap.size [.int .i64 c, .int .i64 k, .int .i64 a, .int .i64 t] := by first | exact X1.below hbb | exact X1.below_drew hbb
      have Y2 : Box w2 (w.heap.size + 1) [.int .i64 c', .int .i64 k', .int .i64 a', .int .i64 t'] := by first | exact Y1.below hbb | exact Y1.below_drew hbb
      have hA : Below w.heap.size w w1 := by first | exact box2 hba | exact box2e hba
      have hB : Below w1.heap.size w1 w2 := ⟨hbb.os, hbb.tape, hbb.output, hbb.size, hbb.block⟩
      have HB := Lib.hid (hA.trans (hB.mono hA.size))
      have x0 := X2.2 0 _ rfl
      have x1 := X2.2 1 _ rfl
      have x2 := X2.2 2 _ rfl
      have x3 := X2.2 3 _ rfl
      have y0 := Y2.2 0 _ rfl
      have y1 := Y2.2 1 _ rfl
      have y2 := Y2.2 2 _ rfl
      have y3 := Y2.2 3 _ rfl
      clear X0 Y0 X1 Y1 X2 Y2 hA hB hba hbb hc hf CA CB
      go_wp2_with fail
      all_goals
        go_ret
        refine ⟨?_, by first | exact HB.out | exact below_drewN' HB.out _⟩
        clear e1 e2 e3 e4 HB x0 x1 x2 x3 y0 y1 y2 y3
        cases p1 <;> cases p2 <;> cases p3 <;> cases p4 <;> first | rfl | contradiction | simp_all
end Go.Proofs.YtklfkdmmclomoaaDoor
