/- What the general laws of chapter 10 need: regions without cells, the draw of a field and a cell. -/
import Derived.Test.YtkhpgggaaldhhaaDoorC10D
import Derived.Test.YtkhpgggaaldhhaaDoorC10T
namespace Go.Proofs.YtkhpgggaaldhhaaDoor
open Go.RowKit

theorem regN_none : regN (fun _ _ => false) = fun _ => 0 := by
  funext y
  unfold regN
  have : ∀ k, rowN (fun x => shB x y && (fun (_ _ : Nat) => false) x y) k = 0 := by
    intro k
    induction k with
    | zero => rfl
    | succ k ih =>
      show rowN _ k + (if _ then _ else _) = 0
      rw [ih, if_neg (by simp)]
  exact this 20
theorem swung_zero (d : Int) : rowsOfR (regN (fun i j => (lnFirst d 0 i j != lnFirst d 0 i j))) = rowsOfR (fun _ => 0) := by
  rw [← regN_none]
  congr 2
  funext i j
  cases lnFirst d 0 i j <;> rfl
theorem lined_zero (o : Int) : rowsOfR (regN (fun i j => lnOrd o 0 i j)) = rowsOfR (regN (fun i j => ordB o i j)) := by
  congr 2
  funext i j
  exact lnOrd_zero o i j
/-- The area of a valid region, its rows named alone. -/
theorem area_named (X : List Int) (N : Int) (hg : RowKit.Hid (goodR X = true)) (hN : RowKit.Hid (((areaTo X 24 : Nat) : Int) = N)) (a : Option Addr) (c : Nat) (W : World) (h : RdI W a 24 X) :
    Calls Tryd.prog 24 #[.agg #[.slice a 24 c]] W fun e w' => e = .returned (.tuple #[.int .i64 N, .bool true]) ∧ Below W.heap.size W w' := by
  have hh := area_impl X 24 a c W h (good_wf hg.out) (by omega)
  rw [hg.out] at hh
  rw [if_pos rfl, hN.out] at hh
  exact hh
set_option maxHeartbeats 1000000 in
theorem drawFT_any (a : Option Addr) (n cap : Nat) (w : World) (h : RdB w w.heap.size a n) (hn : n ≤ 65536) :
    Calls Tryd.prog 29 #[.slice a n cap] w fun e w' => (∃ d l f s x y : Int, e = .returned (.tuple #[.agg #[.int .i64 d, .int .i64 l, .int .i64 f, .int .i64 s], .int .i64 x, .int .i64 y])) ∧ Below w.heap.size w w' := by
  have X0 := Lib.hid (BoxF.new w [.int .i64 0, .int .i64 0, .int .i64 0, .int .i64 0] 30)
  have hB := (Below.refl w.heap.size w).alloc (Nat.le_refl _) (.cells #[.int .i64 0, .int .i64 0, .int .i64 0, .int .i64 0] 30 (0, 0))
  have hR := h.on hB
  have HB := Lib.hid hB
  clear h hB
  go_enter Tryd.func29, Tryd.ntmps29
  go_wp2_with fail
  refine (drawFP_any a n cap _ hR hn).mono ?_
  rintro e w1 ⟨⟨d, l, f, s, x, y, rfl⟩, hb1⟩
  have X1 := X0.out.below hb1
  obtain ⟨k0, k1, k2, k3, kf⟩ := X1.four
  have HB1 := HB.out.trans (hb1.mono HB.out.size)
  have hg9 := grown4 w1 w.heap.size (.int .i64 d) (.int .i64 l) (.int .i64 f) (.int .i64 s)
  have HB9 := Lib.hid (HB1.grown hg9 HB1.size (fun q hq => by cases hq; exact Nat.le_refl _))
  have X9 := (((X1.set 0 (.int .i64 d)).set 1 (.int .i64 l)).set 2 (.int .i64 f)).set 3 (.int .i64 s)
  simp only [List.set_cons_zero, List.set_cons_succ] at X9
  obtain ⟨m0, m1, m2, m3, mf⟩ := X9.four
  clear hg9 X9 X1 HB1 hb1 HB X0 hR
  go_wp2_with fail
  exact bodyPost_ret (v := .tuple #[.agg #[.int .i64 d, .int .i64 l, .int .i64 f, .int .i64 s], .int .i64 x, .int .i64 y]) (by simp [results, Tryd.results29, go_sem, m0, m1, m2, m3]) rfl ⟨⟨_, _, _, _, _, _, rfl⟩, HB9.out⟩
end Go.Proofs.YtkhpgggaaldhhaaDoor
