/- Contracts: the library's DeleteFunc at findings, and the program's LenientFindings. -/
import Derived.Test.YtmmbhglmafnfpabDoorE8Find
import Derived.Test.YtmmbhglmafnfpabDoorE8Rows
import Derived.Test.YtmmbhglmafnfpabDoorE8Allow
import Derived.Lib.SliceRun
namespace Go.Proofs.YtmmbhglmafnfpabDoor
open Go.RowKit

theorem isOne_any (p u l : Int) (w : World) :
    Calls Tryd.prog 47 #[.agg #[.int .i64 p, .int .i64 u, .int .i64 l]] w fun e w' => e = .returned (.bool (p == 1)) ∧ Below w.heap.size w w' := by
  go_enter Tryd.func47, Tryd.ntmps47
  go_wp2_with fail
  go_ret
  exact ⟨rfl, (Below.refl _ w).alloc (Nat.le_refl _) _⟩
set_option linter.unusedSimpArgs false in
set_option maxRecDepth 100000 in
set_option maxHeartbeats 8000000 in
theorem index_hit (F : Fnd) (X : List Fnd) (n : Nat) (a : Option Addr) (c : Nat) (w : World) (h : RdFn w a n (F :: X)) (h1 : F.p = 1) :
    Calls Tryd.prog 82 #[.slice a n c, .func (.func 47) #[] #[]] w fun e w' => e = .returned (.int .i64 0) ∧ Below w.heap.size w w' := by
  have hn : n = X.length + 1 := h.1.symm
  obtain ⟨b, o, rfl, _, hc⟩ := h.2 (by omega)
  obtain ⟨c0, c1, c2⟩ := hc 0 F rfl
  simp only [Nat.zero_mul, Nat.add_zero] at c0 c1 c2
  have CO := Lib.hid (fun W => isOne_any F.p F.u F.l W)
  have e1 : (F.p == 1) = true := by rw [h1]; rfl
  rw [e1] at CO
  have n0 : (0 : Int) < (n : Int) := by omega
  obtain ⟨p, u, l⟩ := F
  simp only at c0 c1 c2 CO
  clear h hc e1 h1 hn
  go_enter Tryd.func82, Tryd.ntmps82
  go_wp2_with fail
  refine wp_loop_rounds 1 ?_
  rw [rounds_succ]
  go_wp2_with fail
  refine (CO.out _).mono ?_
  rintro e w1 ⟨rfl, h1⟩
  have B1 := Lib.hid h1
  clear h1
  go_wp2_with fail
  go_ret
  exact ⟨rfl, B1.out⟩
set_option linter.unusedSimpArgs false in
set_option maxRecDepth 100000 in
set_option maxHeartbeats 8000000 in
theorem index_miss (X : List Fnd) (n : Nat) (a : Option Addr) (c : Nat) (w : World) (h : RdFn w a n X) (hn : n ≤ 1000) (h1 : ∀ F ∈ X, F.p ≠ 1) :
    Calls Tryd.prog 82 #[.slice a n c, .func (.func 47) #[] #[]] w fun e w' => e = .returned (.int .i64 (-1)) ∧ Below w.heap.size w w' := by
  rcases Nat.eq_zero_or_pos n with rfl | h0
  · clear h h1
    go_enter Tryd.func82, Tryd.ntmps82
    go_wp2_with fail
    refine wp_loop_rounds 1 ?_
    rw [rounds_succ]
    go_wp2_with fail
    go_ret
    exact ⟨rfl, Below.refl _ _⟩
  · obtain ⟨b, o, rfl, hb0, hc⟩ := h.2 h0
    have HL := Lib.hid h.1
    have HC := Lib.hid hc
    have H1 := Lib.hid h1
    clear h hc h1
    go_enter Tryd.func82, Tryd.ntmps82
    go_wp2_with fail
    go_loopw [8] (fun i wr => ∃ q : Nat, q ≤ n ∧ i = .int .i64 (q : Int) ∧ Below w.heap.size w wr) (fun i _ => n - (intOf i).toNat)
    case atStart => exact ⟨0, Nat.zero_le _, rfl, Below.refl _ _⟩
    case round =>
      obtain ⟨q, hq, rfl, hb⟩ := hrel
      by_cases hlt : q < n
      · obtain ⟨F, hF⟩ := atF_of_lt HL.out hlt
        obtain ⟨x0, x1, x2⟩ := HC.out q F hF
        have x0 := (hb.cell (p := ⟨b, o + q * 3, none⟩) hb0).trans x0
        have x1 := (hb.cell (p := ⟨b, o + q * 3 + 1, none⟩) hb0).trans x1
        have x2 := (hb.cell (p := ⟨b, o + q * 3 + 2, none⟩) hb0).trans x2
        have CO := Lib.hid (fun W => isOne_any F.p F.u F.l W)
        have e1 : (F.p == 1) = false := by rw [beq_eq_false_iff_ne]; exact H1.out F (List.mem_of_getElem? hF)
        rw [e1] at CO
        have HB := Lib.hid hb
        obtain ⟨p, u, l⟩ := F
        simp only at x0 x1 x2 CO
        clear hF hb e1
        go_wp2_with fail
        refine (CO.out _).mono ?_
        rintro e w1 ⟨rfl, h1⟩
        have B1 := Lib.hid (HB.out.trans (h1.mono HB.out.size))
        clear h1 x0 x1 x2 HB
        go_wp2_with fail
        go_roundw
        case rel => exact ⟨q + 1, by omega, by go_num, B1.out⟩
        case measure => simp [intOf]; omega
      · have HB := Lib.hid hb
        clear hb
        go_wp2_with fail
        go_ret
        exact ⟨rfl, HB.out⟩
set_option linter.unusedSimpArgs false in
set_option maxRecDepth 100000 in
set_option maxHeartbeats 8000000 in
theorem delete_miss (X : List Fnd) (n : Nat) (a : Option Addr) (c : Nat) (w : World) (h : RdFn w a n X) (hn : n ≤ 1000) (h1 : ∀ F ∈ X, F.p ≠ 1) :
    Calls Tryd.prog 46 #[.slice a n c, .func (.func 47) #[] #[]] w fun e w' => e = .returned (.slice a n c) ∧ Below w.heap.size w w' := by
  have CI := Lib.hid (index_miss X n a c w h hn h1)
  clear h h1
  go_enter Tryd.func46, Tryd.ntmps46
  go_wp2_with fail
  refine CI.out.mono ?_
  rintro e w1 ⟨rfl, h1⟩
  have B1 := Lib.hid h1
  clear h1
  go_wp2_with fail
  go_ret
  exact ⟨rfl, B1.out⟩
theorem fcells_set : ∀ {X : List Fnd} {i : Nat} {F : Fnd}, i < X.length → (((fcells X).set (i * 3) (.int .i64 F.p)).set (i * 3 + 1) (.int .i64 F.u)).set (i * 3 + 2) (.int .i64 F.l) = fcells (X.set i F)
  | [], _, _, h => by simp at h
  | G :: X, 0, F, _ => rfl
  | G :: X, i + 1, F, h => by
    have ih := fcells_set (X := X) (i := i) (F := F) (by simpa using h)
    have e : fcells (G :: X) = .int .i64 G.p :: .int .i64 G.u :: .int .i64 G.l :: fcells X := rfl
    rw [List.set_cons_succ, show fcells (G :: X.set i F) = .int .i64 G.p :: .int .i64 G.u :: .int .i64 G.l :: fcells (X.set i F) from rfl, ← ih, e, show (i + 1) * 3 = i * 3 + 1 + 1 + 1 by omega, show i * 3 + 1 + 1 + 1 + 1 = (i * 3 + 1) + 1 + 1 + 1 by omega, show i * 3 + 1 + 1 + 1 + 2 = (i * 3 + 2) + 1 + 1 + 1 by omega]
    simp only [List.set_cons_succ]
/-- The row behind i moves: the first i of the rest, then what was there. -/
def moved (F : Fnd) (X : List Fnd) (i : Nat) : List Fnd := X.take i ++ (F :: X).drop i
theorem moved_len {F : Fnd} {X : List Fnd} {i : Nat} (h : i ≤ X.length) : (moved F X i).length = X.length + 1 := by
  unfold moved; simp; omega
theorem moved_at {F G : Fnd} {X : List Fnd} {i : Nat} (h : X[i]? = some G) : (moved F X i)[i + 1]? = some G := by
  have hi : i < X.length := (List.getElem?_eq_some_iff.1 h).1
  unfold moved
  rw [List.getElem?_append_right (by simp; omega), List.length_take, Nat.min_eq_left (by omega), show i + 1 - i = 1 by omega, List.getElem?_drop]
  simpa using h
theorem moved_set {F G : Fnd} {X : List Fnd} {i : Nat} (h : X[i]? = some G) : (moved F X i).set i G = moved F X (i + 1) := by
  have hi : i < X.length := (List.getElem?_eq_some_iff.1 h).1
  unfold moved
  rw [List.set_append_right _ _ (by rw [List.length_take]; omega), List.length_take, Nat.min_eq_left (by omega), Nat.sub_self, List.take_add_one, h]
  rw [List.drop_eq_getElem_cons (l := F :: X) (i := i) (by simp; omega)]
  simp
theorem moved_end (F : Fnd) (X : List Fnd) : (moved F X X.length).take X.length = X := by
  unfold moved; simp
theorem fcells_take : ∀ (X : List Fnd) (i : Nat), (fcells X).take (i * 3) = fcells (X.take i)
  | _, 0 => by simp [fcells]
  | [], _ + 1 => by simp [fcells]
  | G :: X, i + 1 => by
    rw [show fcells (G :: X) = .int .i64 G.p :: .int .i64 G.u :: .int .i64 G.l :: fcells X from rfl, show (i + 1) * 3 = i * 3 + 1 + 1 + 1 by omega]
    simp only [List.take_succ_cons, fcells_take X i]
    rfl
/-- A row without its end. -/
theorem row_front {w : World} {B g n i cap : Nat} {xs : List Value} (h : w.ownsRow B 40 3 (.slice (some ⟨g, 0, none⟩) n cap) n xs) (hi : i ≤ n) : w.ownsRow B 40 3 (.slice (some ⟨g, 0, none⟩) i cap) i (xs.take (i * 3)) := by
  rcases h.2 with ⟨h0, _⟩ | ⟨g', cap', cur, hv, hB, hg, hn, hm, hs, ht⟩
  · cases h0
  · simp only [Value.slice.injEq, Option.some.injEq, Addr.mk.injEq, and_true, true_and] at hv
    obtain ⟨rfl, rfl⟩ := hv
    have hl := h.1
    refine ⟨by rw [List.length_take]; omega, .inr ⟨g, cap, cur, rfl, hB, hg, by omega, hm, hs, ?_⟩⟩
    rw [← ht, List.take_take, Nat.min_eq_left (by omega)]
theorem run_clear_one (W : World) (ty : TypeId) (g o c : Nat) (hc : ∀ j, j < 3 → (W.cell? ⟨g, o + j, none⟩).isSome = true) (hf : ∀ j, j < 3 → W.frozen? ⟨g, o + j, none⟩ = false) :
    (Builtin.clear_ #[36] ty #[.slice (some ⟨g, o, none⟩) 1 c]).run Tryd.prog W = .ok (.tuple #[]) (W.setCells g o [.int .i64 0, .int .i64 0, .int .i64 0]) := by
  have hst := run_storeCells_cells (P := Tryd.prog) g o [.int .i64 0, .int .i64 0, .int .i64 0] 0 W (by simpa using hc) (by simpa using hf) (by intro v hv'; simp at hv'; subst hv'; rfl)
  simp only [Nat.add_zero] at hst
  have e : (Builtin.zeroCells (Value.agg #[.int .i64 0, .int .i64 0, .int .i64 0]).cells 1).toList = [.int .i64 0, .int .i64 0, .int .i64 0] := by first | kernel_rfl | (simp [Builtin.zeroCells, Value.cells]; done) | decide
  simp [Builtin.clear_, run_underlying Tryd.underlying36, e, hst]
set_option linter.unusedSimpArgs false in
set_option maxRecDepth 100000 in
set_option maxHeartbeats 8000000 in
theorem delete_hit (F : Fnd) (X : List Fnd) (g cap B : Nat) (w : World) (h : OwnFn w B (.slice (some ⟨g, 0, none⟩) (F :: X).length cap) (F :: X)) (hn : X.length ≤ 100) (h1 : F.p = 1) (h2 : ∀ G ∈ X, G.p ≠ 1) :
    Calls Tryd.prog 46 #[.slice (some ⟨g, 0, none⟩) (F :: X).length cap, .func (.func 47) #[] #[]] w fun e w' => e = .returned (.slice (some ⟨g, 0, none⟩) X.length cap) ∧ OwnFn w' B (.slice (some ⟨g, 0, none⟩) X.length cap) X ∧ w.grownBy w' (some g) := by
  obtain ⟨n, hlen⟩ : ∃ n, (F :: X).length = n + 1 := ⟨X.length, rfl⟩
  have hXn : X.length = n := by simpa using hlen
  have hgw := (World.ownsRow.lt h g rfl).2
  have hcap : n + 1 ≤ cap := by
    rcases h.2 with ⟨h0, _⟩ | ⟨g', cap', cur, hv, _, _, hn', _⟩
    · cases h0
    · simp only [Value.slice.injEq, Option.some.injEq, Addr.mk.injEq, and_true, true_and] at hv
      obtain ⟨rfl, rfl⟩ := hv
      omega
  have CI := Lib.hid (index_hit F X (n + 1) (some ⟨g, 0, none⟩) cap w (rdFn_of hlen (by rw [hlen] at h; exact h)) h1)
  have HX := Lib.hid (And.intro hXn h2)
  unfold OwnFn at h ⊢
  rw [hlen] at h ⊢
  rw [hXn]
  have H0 := Lib.hid h
  clear h h1 h2 hlen
  go_enter Tryd.func46, Tryd.ntmps46
  go_wp2_with fail
  refine CI.out.mono ?_
  rintro e w1 ⟨rfl, hb1⟩
  have G1 : Hid (w.grownBy w1 (some g)) := Lib.hid ⟨hb1.os, hb1.tape, hb1.output, hb1.size, fun i hi _ => hb1.block i hi⟩
  have H1 : Hid (w1.ownsRow B 40 3 (.slice (some ⟨g, 0, none⟩) (n + 1) cap) (n + 1) (fcells (moved F X 0))) := Lib.hid (rowBelow H0.out hb1)
  clear hb1 H0 CI
  go_wp2_with fail
  go_loopw [5, 6] (fun iv jv wr => ∃ i : Nat, i ≤ n ∧ iv = .int .i64 (i : Int) ∧ jv = .int .i64 ((i : Int) + 1) ∧ Hid (wr.ownsRow B 40 3 (.slice (some ⟨g, 0, none⟩) (n + 1) cap) (n + 1) (fcells (moved F X i)) ∧ w.grownBy wr (some g))) (fun iv _ _ => n - (intOf iv).toNat)
  case atStart => exact ⟨0, Nat.zero_le _, rfl, rfl, Lib.hid ⟨H1.out, G1.out⟩⟩
  case round =>
    obtain ⟨i, hi, rfl, rfl, HK⟩ := hrel
    clear H1 G1
    by_cases hlt : i < n
    · obtain ⟨G, hG⟩ : ∃ G, X[i]? = some G := ⟨X[i]'(by have := HX.out.1; omega), List.getElem?_eq_getElem _⟩
      obtain ⟨f0, f1, f2⟩ := fcells_at (moved_at (F := F) hG)
      have x0 := (World.ownsRow.cellAt HK.out.1 ((i + 1) * 3) (by omega)).trans f0
      have x1 := (World.ownsRow.cellAt HK.out.1 ((i + 1) * 3 + 1) (by omega)).trans f1
      have x2 := (World.ownsRow.cellAt HK.out.1 ((i + 1) * 3 + 2) (by omega)).trans f2
      have CO := Lib.hid (fun W => isOne_any G.p G.u G.l W)
      have e1 : (G.p == 1) = false := by rw [beq_eq_false_iff_ne]; exact HX.out.2 G (List.mem_of_getElem? hG)
      rw [e1] at CO
      have HS : Hid ((((fcells (moved F X i)).set (i * 3) (.int .i64 G.p)).set (i * 3 + 1) (.int .i64 G.u)).set (i * 3 + 2) (.int .i64 G.l) = fcells (moved F X (i + 1))) := Lib.hid (by
        rw [fcells_set (by rw [moved_len (by have := HX.out.1; omega)]; have := HX.out.1; omega), moved_set hG])
      have ej : ((i : Int) + 1).toNat = i + 1 := by omega
      have j0 : (0 : Int) ≤ (i : Int) + 1 := by omega
      have j1 : (i : Int) + 1 < ((n : Int) + 1) := by omega
      have hgr := HK.out.2.size
      have bx := Lib.hid (Box.new wr [.int .i64 G.p, .int .i64 G.u, .int .i64 G.l] 40)
      clear f0 f1 f2 hG e1
      obtain ⟨p, u, l⟩ := G
      simp only at x0 x1 x2 CO HS bx
      go_wp2_with fail
      refine (CO.out _).mono ?_
      rintro e w2 ⟨rfl, h2⟩
      have K2 := rowBelow (World.ownsRow.alloc HK.out.1 (.cells #[.int .i64 p, .int .i64 u, .int .i64 l] 40 (0, 0))) h2
      have G2 : w.grownBy w2 (some g) := (HK.out.2.trans (World.grownBy_alloc wr _ _)).trans ⟨h2.os, h2.tape, h2.output, h2.size, fun i hi _ => h2.block i hi⟩
      have bx2 := bx.out.below h2
      have z0 := bx2.2 0 _ rfl
      have z1 := bx2.2 1 _ rfl
      have z2 := bx2.2 2 _ rfl
      have m0 := K2.stored (i * 3) (.int .i64 p)
      have m1 := m0.1.stored (i * 3 + 1) (.int .i64 u)
      have m2 := m1.1.stored (i * 3 + 2) (.int .i64 l)
      rw [HS.out] at m2
      have cl : ∀ {W : World} {xs : List Value}, W.ownsRow B 40 3 (.slice (some ⟨g, 0, none⟩) (n + 1) cap) (n + 1) xs → ∀ j, j < (n + 1) * 3 → ∃ v, W.cell? ⟨g, j, none⟩ = some v := fun {W xs} h j hj => ⟨xs[j]'(by have := h.1; omega), (h.cellAt j hj).trans (List.getElem?_eq_getElem _)⟩
      obtain ⟨v0, y0⟩ := cl K2 (i * 3) (by omega)
      obtain ⟨v1, y1⟩ := cl m0.1 (i * 3 + 1) (by omega)
      obtain ⟨v2, y2⟩ := cl m1.1 (i * 3 + 2) (by omega)
      have yf0 := K2.frozenAt (i * 3)
      have yf1 := m0.1.frozenAt (i * 3 + 1)
      have yf2 := m1.1.frozenAt (i * 3 + 2)
      have HM := Lib.hid (And.intro m2.1 (G2.trans (m0.2.trans (m1.2.trans m2.2))))
      clear h2 K2 G2 bx bx2 m0 m1 m2 cl x0 x1 x2 HK
      go_wp2_with fail
      go_roundw
      case rel => exact ⟨i + 1, by omega, by go_num, by go_num, HM⟩
      case measure => simp [intOf]; omega
    · obtain rfl : i = n := by omega
      have i0 : (i : Int) < (cap : Int) := by omega
      have hc : ∀ j, j < 3 → (wr.cell? ⟨g, i * 3 + j, none⟩).isSome = true := fun j hj => by
        rw [World.ownsRow.cellAt HK.out.1 (i * 3 + j) (by omega), List.getElem?_eq_getElem (by have := HK.out.1.1; omega)]; rfl
      have hcl : ∀ ty, (Builtin.clear_ #[36] ty #[.slice (some ⟨g, i * 3, none⟩) 1 (cap - i)]).run Tryd.prog wr = .ok (.tuple #[]) (wr.setCells g (i * 3) [.int .i64 0, .int .i64 0, .int .i64 0]) :=
        fun ty => run_clear_one wr ty g (i * 3) (cap - i) hc (fun j _ => HK.out.1.frozenAt _)
      clear hc
      go_wp2_with fail
      go_ret
      have m0 := HK.out.1.stored (i * 3) (.int .i64 0)
      have m1 := m0.1.stored (i * 3 + 1) (.int .i64 0)
      have m2 := m1.1.stored (i * 3 + 2) (.int .i64 0)
      have r := row_front m2.1 (show i ≤ i + 1 by omega)
      rw [List.take_set, List.take_set, List.take_set, fcells_take, show (moved F X i).take i = X from by have e := moved_end F X; rw [HX.out.1] at e; exact e, List.set_eq_of_length_le (by (try simp only [List.length_set]); rw [fcells_len]; have := HX.out.1; omega), List.set_eq_of_length_le (by (try simp only [List.length_set]); rw [fcells_len]; have := HX.out.1; omega), List.set_eq_of_length_le (by (try simp only [List.length_set]); rw [fcells_len]; have := HX.out.1; omega)] at r
      exact ⟨rfl, r, HK.out.2.trans (m0.2.trans (m1.2.trans m2.2))⟩
/-- The findings that stay. -/
def LF (o : Int) (X : List Fnd) : List Fnd := if o = 7 then X.filter (fun F => F.p != 1) else X
theorem LF_len (o : Int) (X : List Fnd) : (LF o X).length ≤ X.length := by
  unfold LF
  split
  · exact List.length_filter_le _ _
  · exact Nat.le_refl _
/-- The first finding alone may be of the ordinary. -/
theorem FL_parts (b : Nat → Bool) (T lo : Nat → Int) : (∀ F ∈ FL b T lo 3, F.p ≠ 1) ∨ ∃ F X, FL b T lo 3 = F :: X ∧ F.p = 1 ∧ X.length ≤ 2 ∧ ∀ G ∈ X, G.p ≠ 1 := by
  cases h0 : b 0
  · cases h1 : b 1 <;> cases h2 : b 2 <;> simp [FL, h0, h1, h2]
  · cases h1 : b 1 <;> cases h2 : b 2
    · exact .inr ⟨⟨1, T 0, lo 0⟩, [], by simp [FL, h0, h1, h2], rfl, by simp, by simp⟩
    · exact .inr ⟨⟨1, T 0, lo 0⟩, [⟨3, T 2, lo 2⟩], by simp [FL, h0, h1, h2], rfl, by simp, by simp⟩
    · exact .inr ⟨⟨1, T 0, lo 0⟩, [⟨2, T 1, lo 1⟩], by simp [FL, h0, h1, h2], rfl, by simp, by simp⟩
    · exact .inr ⟨⟨1, T 0, lo 0⟩, [⟨2, T 1, lo 1⟩, ⟨3, T 2, lo 2⟩], by simp [FL, h0, h1, h2], rfl, by simp, by simp⟩
set_option linter.unusedSimpArgs false in
set_option maxRecDepth 100000 in
set_option maxHeartbeats 8000000 in
theorem lenient_impl (d l f s o n x c k a t c' k' a' t' : Int) (w : World) (X : List Fnd) (ok : Bool) (hX : (∀ F ∈ X, F.p ≠ 1) ∨ ∃ F Y, X = F :: Y ∧ F.p = 1 ∧ Y.length ≤ 2 ∧ ∀ G ∈ Y, G.p ≠ 1) (hl : X.length ≤ 3)
    (hF : ∀ W, Below w.heap.size w W → Calls Tryd.prog 11 #[.agg #[.int .i64 d, .int .i64 l, .int .i64 f, .int .i64 s, .int .i64 o, .int .i64 n, .int .i64 x, .int .i64 c, .int .i64 k, .int .i64 a, .int .i64 t, .int .i64 c', .int .i64 k', .int .i64 a', .int .i64 t']] W (AnsFn W X ok)) :
    Calls Tryd.prog 14 #[.agg #[.int .i64 d, .int .i64 l, .int .i64 f, .int .i64 s, .int .i64 o, .int .i64 n, .int .i64 x, .int .i64 c, .int .i64 k, .int .i64 a, .int .i64 t, .int .i64 c', .int .i64 k', .int .i64 a', .int .i64 t']] w (AnsFn w (LF o X) ok) := by
  have CF := Lib.hid hF
  have X0 := Lib.hid (BoxF.new w [.int .i64 d, .int .i64 l, .int .i64 f, .int .i64 s, .int .i64 o, .int .i64 n, .int .i64 x, .int .i64 c, .int .i64 k, .int .i64 a, .int .i64 t, .int .i64 c', .int .i64 k', .int .i64 a', .int .i64 t'] 29)
  have B0 := Lib.hid ((Below.refl _ w).alloc (Nat.le_refl _) (.cells #[.int .i64 d, .int .i64 l, .int .i64 f, .int .i64 s, .int .i64 o, .int .i64 n, .int .i64 x, .int .i64 c, .int .i64 k, .int .i64 a, .int .i64 t, .int .i64 c', .int .i64 k', .int .i64 a', .int .i64 t'] 29 (0, 0)))
  have r0 := X0.out.range
  clear hF
  by_cases ho : o = 7
  · have e7 : (o == 7) = true := by rw [ho]; rfl
    have eL : LF o X = X.filter (fun F => F.p != 1) := if_pos ho
    rw [eL]
    clear ho eL
    rcases hX with hX | ⟨F, Y, rfl, h1, h2, h3⟩
    · have eX : X.filter (fun F => F.p != 1) = X := List.filter_eq_self.2 (fun F hF => by simp [hX F hF])
      rw [eX]
      have HD := Lib.hid (fun (a : Option Addr) (n c : Nat) W (h : RdFn W a n X) (hn : n ≤ 1000) => delete_miss X n a c W h hn hX)
      clear eX hX
      go_enter Tryd.func14, Tryd.ntmps14
      go_wp2_with (with_reducible refine isList ?_; refine ld15 1 w.heap.size [.int .i64 d, .int .i64 l, .int .i64 f, .int .i64 s, .int .i64 o, .int .i64 n, .int .i64 x, .int .i64 c, .int .i64 k, .int .i64 a, .int .i64 t, .int .i64 c', .int .i64 k', .int .i64 a', .int .i64 t'] rfl rfl rfl rfl ?_ ?_; exact r0)
      refine (CF.out _ B0.out).mono ?_
      rintro e w1 ⟨a0, c0, rfl, ow, h1⟩
      have B1 := Lib.hid (B0.out.trans (h1.mono B0.out.size))
      have X1 := (X0.out.below h1).at 4
      simp only [List.getElem?_cons_zero, List.getElem?_cons_succ] at X1
      have O1 := Lib.hid (ow.low B0.out.size)
      clear h1 r0 B0 X0 ow CF
      go_wp2_with fail
      refine (HD.out _ _ _ _ O1.out.rd (by omega)).mono ?_
      rintro e w2 ⟨rfl, h2⟩
      have O2 := Lib.hid (O1.out.below h2)
      have B2 := Lib.hid (B1.out.trans (h2.mono B1.out.size))
      clear h2 X1
      go_wp2_with fail
      go_ret2
      exact ⟨a0, c0, rfl, O2.out, B2.out⟩
    · have eX : (F :: Y).filter (fun F => F.p != 1) = Y := by
        rw [List.filter_cons_of_neg (by simp [h1])]
        exact List.filter_eq_self.2 (fun F hF => by simp [h3 F hF])
      rw [eX]
      have HD := Lib.hid (fun (g c B : Nat) W (h : OwnFn W B (.slice (some ⟨g, 0, none⟩) (F :: Y).length c) (F :: Y)) => delete_hit F Y g c B W h (by omega) h1 h3)
      clear eX h1 h2 h3 hl
      go_enter Tryd.func14, Tryd.ntmps14
      go_wp2_with (with_reducible refine isList ?_; refine ld15 1 w.heap.size [.int .i64 d, .int .i64 l, .int .i64 f, .int .i64 s, .int .i64 o, .int .i64 n, .int .i64 x, .int .i64 c, .int .i64 k, .int .i64 a, .int .i64 t, .int .i64 c', .int .i64 k', .int .i64 a', .int .i64 t'] rfl rfl rfl rfl ?_ ?_; exact r0)
      refine (CF.out _ B0.out).mono ?_
      rintro e w1 ⟨a0, c0, rfl, ow, h1⟩
      obtain ⟨g, rfl, hg1, hg2⟩ : ∃ g, a0 = some ⟨g, 0, none⟩ ∧ (w.alloc (.cells #[.int .i64 d, .int .i64 l, .int .i64 f, .int .i64 s, .int .i64 o, .int .i64 n, .int .i64 x, .int .i64 c, .int .i64 k, .int .i64 a, .int .i64 t, .int .i64 c', .int .i64 k', .int .i64 a', .int .i64 t'] 29 (0, 0))).heap.size ≤ g ∧ g < w1.heap.size := by
        rcases ow.shape with ⟨_, _, h⟩ | h
        · cases h
        · exact h
      have B1 := Lib.hid (B0.out.trans (h1.mono B0.out.size))
      have X1 := (X0.out.below h1).at 4
      simp only [List.getElem?_cons_zero, List.getElem?_cons_succ] at X1
      have O1 := Lib.hid (ow.low B0.out.size)
      have HG : Hid (w.heap.size ≤ g) := Lib.hid (Nat.le_trans B0.out.size hg1)
      clear h1 r0 B0 X0 ow CF hg1 hg2
      go_wp2_with fail
      refine (HD.out _ _ _ _ O1.out).mono ?_
      rintro e w2 ⟨rfl, o2, h2⟩
      have O2 := Lib.hid o2
      have B2 := Lib.hid (B1.out.grown h2 B1.out.size (fun q hq => by cases hq; exact HG.out))
      clear h2 X1 o2
      go_wp2_with fail
      go_ret2
      exact ⟨_, c0, rfl, O2.out, B2.out⟩
  · have e7 : (o == 7) = false := by rw [beq_eq_false_iff_ne]; exact ho
    have eL : LF o X = X := if_neg ho
    rw [eL]
    clear ho eL hX
    go_enter Tryd.func14, Tryd.ntmps14
    go_wp2_with (with_reducible refine isList ?_; refine ld15 1 w.heap.size [.int .i64 d, .int .i64 l, .int .i64 f, .int .i64 s, .int .i64 o, .int .i64 n, .int .i64 x, .int .i64 c, .int .i64 k, .int .i64 a, .int .i64 t, .int .i64 c', .int .i64 k', .int .i64 a', .int .i64 t'] rfl rfl rfl rfl ?_ ?_; exact r0)
    refine (CF.out _ B0.out).mono ?_
    rintro e w1 ⟨a0, c0, rfl, ow, h1⟩
    have B1 := Lib.hid (B0.out.trans (h1.mono B0.out.size))
    have X1 := (X0.out.below h1).at 4
    simp only [List.getElem?_cons_zero, List.getElem?_cons_succ] at X1
    have O1 := Lib.hid (ow.low B0.out.size)
    clear h1 r0 B0 X0 ow CF
    go_wp2_with fail
    go_ret2
    exact ⟨a0, c0, rfl, O1.out, B1.out⟩
end Go.Proofs.YtmmbhglmafnfpabDoor
