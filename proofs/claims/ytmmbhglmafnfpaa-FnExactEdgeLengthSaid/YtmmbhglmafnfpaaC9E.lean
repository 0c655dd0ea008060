/- Contracts: EdgeLength of both sides. -/
import Derived.Test.YtmmbhglmafnfpaaC9B
import Derived.Deep.RegionHeld3
import Derived.Deep.DeepCutAuto
namespace Go.Proofs.Ytmmbhglmafnfpaa
open Go.RowKit

/-- How many cells of row y have an open side k. -/
def sideN (X : List Int) (y k : Nat) : Nat := popN (lessN (NX X y) (besN X y k))
/-- The open sides of the first y rows. -/
def edgeTo (X : List Int) : Nat → Nat
  | 0 => 0
  | y + 1 => edgeTo X y + (sideN X y 0 + sideN X y 1 + sideN X y 2 + sideN X y 3)
theorem edgeTo_le (X : List Int) : ∀ y, edgeTo X y ≤ 80 * y
  | 0 => by simp [edgeTo]
  | y + 1 => by
    have h := edgeTo_le X y
    have h0 : sideN X y 0 ≤ 20 := popN_le _
    have h1 : sideN X y 1 ≤ 20 := popN_le _
    have h2 : sideN X y 2 ≤ 20 := popN_le _
    have h3 : sideN X y 3 ≤ 20 := popN_le _
    show edgeTo X y + _ ≤ _; omega
theorem besN_lt {X : List Int} (hg : goodR X = true) {y : Nat} (hy : y < 24) (k : Nat) : besN X y k < 1099511627776 := by
  have h0 := NX_lt hg hy
  unfold besN
  split
  · omega
  · split
    · omega
    · split
      · split
        · omega
        · have := NX_lt hg (y := y - 1) (by omega); omega
      · split
        · have := NX_lt hg (y := y + 1) (by omega); omega
        · omega
theorem index4_0 (v0 v1 v2 v3 : Int) (w : World) : (Instr.index 66 (.agg #[.int .i64 v0, .int .i64 v1, .int .i64 v2, .int .i64 v3]) (.int .i64 0)).run Try.prog w = .ok (.int .i64 v0) w := by
  kernel_rfl
theorem index4_1 (v0 v1 v2 v3 : Int) (w : World) : (Instr.index 66 (.agg #[.int .i64 v0, .int .i64 v1, .int .i64 v2, .int .i64 v3]) (.int .i64 1)).run Try.prog w = .ok (.int .i64 v1) w := by
  kernel_rfl
theorem index4_2 (v0 v1 v2 v3 : Int) (w : World) : (Instr.index 66 (.agg #[.int .i64 v0, .int .i64 v1, .int .i64 v2, .int .i64 v3]) (.int .i64 2)).run Try.prog w = .ok (.int .i64 v2) w := by
  kernel_rfl
theorem index4_3 (v0 v1 v2 v3 : Int) (w : World) : (Instr.index 66 (.agg #[.int .i64 v0, .int .i64 v1, .int .i64 v2, .int .i64 v3]) (.int .i64 3)).run Try.prog w = .ok (.int .i64 v3) w := by
  kernel_rfl
set_option maxRecDepth 100000 in
set_option maxHeartbeats 4000000 in
theorem edge_impl (X : List Int) (n : Nat) (a : Option Addr) (c : Nat) (w : World) (h : RdI w a n X) (hwf : WfI X) (hn : n ≤ 1048577) :
    Calls Try.prog 35 #[.agg #[.slice a n c]] w fun e w' => e = .returned (.tuple #[.int .i64 (if goodR X then (edgeTo X 24 : Int) else 0), .bool (goodR X)]) ∧ Below w.heap.size w w' := by
  have XA := BoxF.new w [.slice a n c] 28
  have hb := (Below.refl _ w).alloc (Nat.le_refl _) (.cells #[.slice a n c] 28 (0, 0))
  have c1 := XA.one.1
  have HR := Lib.hid h
  have CV := Lib.hid (valid_impl X n a c _ (h.below hb) hwf hn)
  have HX := Lib.hid XA
  have HB := Lib.hid hb
  clear h hb XA hwf
  cases hg : goodR X
  · rw [hg] at CV
    clear hg
    go_enter Try.func35, Try.ntmps35
    go_wp2_with fail
    refine CV.out.mono ?_
    rintro e w1 ⟨rfl, hb1⟩
    have HB1 := Lib.hid (HB.out.trans (hb1.mono HB.out.size))
    clear hb1 HX c1
    go_wp2_with fail
    go_ret2
    exact ⟨rfl, HB1.out⟩
  · rw [hg] at CV
    have h24 : n = 24 := by rw [← HR.out.1]; exact goodR_len hg
    subst h24
    have HG := Lib.hid hg
    clear hg
    go_enter Try.func35, Try.ntmps35
    go_wp2_with fail
    refine CV.out.mono ?_
    rintro e w1 ⟨rfl, hb1⟩
    have HX1 := Lib.hid (HX.out.below hb1)
    have HB1 := Lib.hid (HB.out.trans (hb1.mono HB.out.size))
    have c1 := HX1.out.one.1
    clear hb1 HX HB CV
    go_wp2_with fail
    clear c1
    go_loopw [4, 15] (fun v i wr => ∃ y : Nat, y ≤ 24 ∧ i = .int .i64 (y : Int) ∧ v = .int .i64 (edgeTo X y : Int) ∧ Hid (BoxF wr w.heap.size [.slice a 24 c] 28) ∧ Hid (Below w.heap.size w wr)) (fun _ i _ => 24 - (intOf i).toNat)
    case atStart => exact ⟨0, by omega, rfl, rfl, HX1, HB1⟩
    case round =>
      clear HX1 HB1
      obtain ⟨y, hy, rfl, rfl, HX, HB⟩ := hrel
      by_cases hlt : y < 24
      · have ely : decide ((y : Int) < 24) = true := decide_eq_true (by omega)
        have hRw := HR.out.below HB.out
        have CB := Lib.hid (besideRow_any X a c y _ hRw (fun j hj => NX_eq HG.out hj) (fun j hj => NX_lt HG.out hj) hlt)
        obtain ⟨b3, o3, rfl, _, hc3⟩ := hRw.2 (by omega)
        have x2 := hc3 y hlt
        rw [NX_eq HG.out hlt] at x2
        have n2 := NX_lt HG.out hlt
        have c1 := HX.out.one.1
        have hst : edgeTo X (y + 1) = edgeTo X y + (sideN X y 0 + sideN X y 1 + sideN X y 2 + sideN X y 3) := rfl
        have HST := Lib.hid hst
        have hle := edgeTo_le X y
        have a0 := i64_andNot_nat (NX X y) (besN X y 0) (by omega) (besN_lt HG.out hlt 0)
        have a1 := i64_andNot_nat (NX X y) (besN X y 1) (by omega) (besN_lt HG.out hlt 1)
        have a2 := i64_andNot_nat (NX X y) (besN X y 2) (by omega) (besN_lt HG.out hlt 2)
        have a3 := i64_andNot_nat (NX X y) (besN X y 3) (by omega) (besN_lt HG.out hlt 3)
        have s0 : sideN X y 0 ≤ 20 := popN_le _
        have s1 : sideN X y 1 ≤ 20 := popN_le _
        have s2 : sideN X y 2 ≤ 20 := popN_le _
        have s3 : sideN X y 3 ≤ 20 := popN_le _
        have p0 : lessN (NX X y) (besN X y 0) < 1048576 := lessN_lt n2
        have p1 : lessN (NX X y) (besN X y 1) < 1048576 := lessN_lt n2
        have p2 : lessN (NX X y) (besN X y 2) < 1048576 := lessN_lt n2
        have p3 : lessN (NX X y) (besN X y 3) < 1048576 := lessN_lt n2
        have C0 := Lib.hid (fun W => onesCount _ W p0)
        have C1 := Lib.hid (fun W => onesCount _ W p1)
        have C2 := Lib.hid (fun W => onesCount _ W p2)
        have C3 := Lib.hid (fun W => onesCount _ W p3)
        change Hid (∀ W, Calls _ _ _ W fun e w' => e = .returned (.int .i64 (sideN X y 0 : Int)) ∧ W = w') at C0
        change Hid (∀ W, Calls _ _ _ W fun e w' => e = .returned (.int .i64 (sideN X y 1 : Int)) ∧ W = w') at C1
        change Hid (∀ W, Calls _ _ _ W fun e w' => e = .returned (.int .i64 (sideN X y 2 : Int)) ∧ W = w') at C2
        change Hid (∀ W, Calls _ _ _ W fun e w' => e = .returned (.int .i64 (sideN X y 3 : Int)) ∧ W = w') at C3
        generalize lessN (NX X y) (besN X y 0) = L0 at *
        generalize lessN (NX X y) (besN X y 1) = L1 at *
        generalize lessN (NX X y) (besN X y 2) = L2 at *
        generalize lessN (NX X y) (besN X y 3) = L3 at *
        generalize sideN X y 0 = S0 at *
        generalize sideN X y 1 = S1 at *
        generalize sideN X y 2 = S2 at *
        generalize sideN X y 3 = S3 at *
        generalize edgeTo X y = A at *
        generalize besN X y 0 = B0 at *
        generalize besN X y 1 = B1 at *
        generalize besN X y 2 = B2 at *
        generalize besN X y 3 = B3 at *
        clear hc3 hst hRw
        go_wp2_with fail
        refine CB.out.mono ?_
        rintro e w2 ⟨rfl, hb2⟩
        have HX2 := Lib.hid (HX.out.below hb2)
        have HB2 := Lib.hid (HB.out.trans (hb2.mono HB.out.size))
        clear hb2 HX HB c1 x2 CB
        have i0 := fun W => index4_0 B0 B1 B2 B3 W
        have i1 := fun W => index4_1 B0 B1 B2 B3 W
        have i2 := fun W => index4_2 B0 B1 B2 B3 W
        have i3 := fun W => index4_3 B0 B1 B2 B3 W
        go_wp2_with fail
        refine wp_loop_rounds 5 ?_
        rw [rounds_succ]
        go_wp2_with fail
        refine (C0.out _).mono ?_
        rintro e w' ⟨rfl, rfl⟩
        go_wp2_with fail
        rw [rounds_succ]
        go_wp2_with fail
        refine (C1.out _).mono ?_
        rintro e w' ⟨rfl, rfl⟩
        go_wp2_with fail
        rw [rounds_succ]
        go_wp2_with fail
        refine (C2.out _).mono ?_
        rintro e w' ⟨rfl, rfl⟩
        go_wp2_with fail
        rw [rounds_succ]
        go_wp2_with fail
        refine (C3.out _).mono ?_
        rintro e w' ⟨rfl, rfl⟩
        go_wp2_with fail
        rw [rounds_succ]
        go_wp2_with fail
        go_roundw
        case rel => exact ⟨y + 1, by omega, by go_num, by rw [HST.out]; go_num, HX2, HB2⟩
        case measure => simp [intOf]; omega
      · have ely : decide ((y : Int) < 24) = false := decide_eq_false (by omega)
        obtain rfl : y = 24 := by omega
        go_wp2_with fail
        go_ret2
        exact ⟨by first | rfl | simp, HB.out⟩
/-- The open sides of the cell z. -/
def openN (X : List Int) (z : Nat) : Nat := cntB (fun k => !hasZ X (bxZ ((z : Int) % 20) k) (byZ ((z : Int) / 20) k)) 4
/-- The open sides of the first i cells of a list. -/
def opTo (X l : List Int) : Nat → Nat
  | 0 => 0
  | i + 1 => opTo X l i + openN X (l.getD i 0).toNat
theorem openN_le (X : List Int) (z : Nat) : openN X z ≤ 4 := cntB_le _ 4
theorem opTo_le (X l : List Int) : ∀ i, opTo X l i ≤ 4 * i
  | 0 => by simp [opTo]
  | i + 1 => by have := opTo_le X l i; have := openN_le X (l.getD i 0).toNat; show opTo X l i + _ ≤ _; omega
theorem opTo_append (X l : List Int) (z : Nat) : opTo X (l ++ [(z : Int)]) (l.length + 1) = opTo X l l.length + openN X z := by
  have h : ∀ i, i ≤ l.length → opTo X (l ++ [(z : Int)]) i = opTo X l i := by
    intro i
    induction i with
    | zero => intro _; rfl
    | succ i ih =>
      intro hi
      show opTo X (l ++ [(z : Int)]) i + _ = opTo X l i + _
      rw [ih (by omega)]
      simp [List.getD, List.getElem?_append_left (show i < l.length by omega)]
  show opTo X (l ++ [(z : Int)]) l.length + _ = _
  rw [h _ (Nat.le_refl _)]
  simp [List.getD]
theorem cellsK_mem {X : List Int} {k i : Nat} (hi : i < (cellsK X k).length) : ∃ z : Nat, (cellsK X k).getD i 0 = (z : Int) ∧ z < k := by
  have hm : (cellsK X k)[i] ∈ cellsK X k := List.getElem_mem hi
  unfold cellsK at hm
  obtain ⟨z, hz, e⟩ := List.mem_map.1 hm
  have := (List.mem_filter.1 hz).1
  rw [List.mem_range] at this
  have h2 : (cellsK X k).getD i 0 = (cellsK X k)[i] := by simp [List.getD, List.getElem?_eq_getElem hi]
  exact ⟨z, h2.trans e.symm, this⟩
/-- What row y has of open sides, cell by cell. -/
def rowO (X : List Int) (y : Nat) : Nat → Nat
  | 0 => 0
  | x + 1 => rowO X y x + if hasB X x y then openN X (20 * y + x) else 0
theorem opTo_row (X : List Int) (y : Nat) : ∀ x, x ≤ 20 → opTo X (cellsK X (20 * y + x)) (cellsK X (20 * y + x)).length = opTo X (cellsK X (20 * y)) (cellsK X (20 * y)).length + rowO X y x
  | 0, _ => rfl
  | x + 1, h => by
    have ih := opTo_row X y x (by omega)
    rw [← Nat.add_assoc]
    show _ = _ + (rowO X y x + _)
    cases hb : hasB X x y
    · rw [cellsK_out X (by omega) hb, ih]; simp
    · rw [cellsK_in X (by omega) hb, List.length_append]
      have e : (20 * (y : Int) + (x : Int)) = ((20 * y + x : Nat) : Int) := by omega
      rw [e]
      show opTo X _ ((cellsK X (20 * y + x)).length + 1) = _
      rw [opTo_append, ih]; simp; omega
theorem rowO_sum (X : List Int) {y : Nat} (P : Nat → Nat → Bool) (h : ∀ x k, x < 20 → k < 4 → hasZ X (bxZ (((20 * y + x : Nat) : Int) % 20) k) (byZ (((20 * y + x : Nat) : Int) / 20) k) = P x k) :
    ∀ x, x ≤ 20 → rowO X y x = cntB (fun i => hasB X i y && !P i 0) x + cntB (fun i => hasB X i y && !P i 1) x + cntB (fun i => hasB X i y && !P i 2) x + cntB (fun i => hasB X i y && !P i 3) x
  | 0, _ => rfl
  | x + 1, hx => by
    have ih := rowO_sum X P h x (by omega)
    simp only [cntB_succ]
    show rowO X y x + _ = _
    rw [ih]
    have ho : openN X (20 * y + x) = (if !P x 0 then 1 else 0) + (if !P x 1 then 1 else 0) + (if !P x 2 then 1 else 0) + (if !P x 3 then 1 else 0) := by
      unfold openN
      rw [cntB_congr (q := fun k => !P x k) (fun k hk => by rw [h x k (by omega) hk])]
      simp only [cntB]
      omega
    rw [ho]
    cases hasB X x y <;> cases P x 0 <;> cases P x 1 <;> cases P x 2 <;> cases P x 3 <;> simp <;> omega
theorem hasB_bit {X : List Int} {x y : Nat} : hasB X x y = (NX X y).testBit x := rfl
theorem bes_bit {X : List Int} (hg : goodR X = true) {x y k : Nat} (hx : x < 20) (hy : y < 24) (hk : k < 4) : hasZ X (bxZ (((20 * y + x : Nat) : Int) % 20) k) (byZ (((20 * y + x : Nat) : Int) / 20) k) = (besN X y k).testBit x := by
  have e1 : (((20 * y + x : Nat) : Int) % 20) = (x : Int) := by omega
  have e2 : (((20 * y + x : Nat) : Int) / 20) = (y : Int) := by omega
  rw [e1, e2]
  have hk4 : k = 0 ∨ k = 1 ∨ k = 2 ∨ k = 3 := by omega
  have hz : ∀ u v : Nat, u < 20 → v < 24 → hasZ X (u : Int) (v : Int) = (NX X v).testBit u := fun u v hu hv => by
    unfold hasZ
    rw [decide_eq_true (by omega), decide_eq_true (by omega)]
    simp [hasB_bit]
  rcases hk4 with rfl | rfl | rfl | rfl
  · show hasZ X ((x : Int) - 1) (y : Int) = (2 * NX X y).testBit x
    rcases Nat.eq_zero_or_pos x with rfl | h0
    · unfold hasZ
      rw [decide_eq_false (by omega)]
      simp [Nat.testBit_zero]
    · rw [show ((x : Int) - 1) = ((x - 1 : Nat) : Int) by omega, hz _ _ (by omega) hy]
      obtain ⟨m, rfl⟩ : ∃ m, x = m + 1 := ⟨x - 1, by omega⟩
      rw [Nat.testBit_succ, show 2 * NX X y / 2 = NX X y by omega]; rfl
  · show hasZ X ((x : Int) + 1) (y : Int) = (NX X y / 2).testBit x
    rw [← Nat.testBit_succ]
    rcases Nat.lt_or_ge (x + 1) 20 with h1 | h1
    · rw [show ((x : Int) + 1) = ((x + 1 : Nat) : Int) by omega, hz _ _ h1 hy]
    · unfold hasZ
      rw [decide_eq_false (by omega)]
      have := NX_lt hg hy
      rw [Nat.testBit_lt_two_pow (Nat.lt_of_lt_of_le (show NX X y < 2 ^ 20 by omega) (Nat.pow_le_pow_right (by omega) h1))]; rfl
  · show hasZ X (x : Int) ((y : Int) - 1) = (if y = 0 then 0 else NX X (y - 1)).testBit x
    rcases Nat.eq_zero_or_pos y with rfl | h0
    · unfold hasZ
      rw [decide_eq_false (p := 0 ≤ ((0 : Nat) : Int) - 1 ∧ ((0 : Nat) : Int) - 1 ≤ 23) (by omega)]
      simp
    · rw [if_neg (by omega), show ((y : Int) - 1) = ((y - 1 : Nat) : Int) by omega, hz _ _ hx (by omega)]
  · show hasZ X (x : Int) ((y : Int) + 1) = (if y + 1 < 24 then NX X (y + 1) else 0).testBit x
    by_cases h1 : y + 1 < 24
    · rw [if_pos h1, show ((y : Int) + 1) = ((y + 1 : Nat) : Int) by omega, hz _ _ hx h1]
    · rw [if_neg h1]
      unfold hasZ
      rw [decide_eq_false (p := 0 ≤ (y : Int) + 1 ∧ (y : Int) + 1 ≤ 23) (by omega)]
      simp
theorem side_cnt {X : List Int} (hg : goodR X = true) {y : Nat} (hy : y < 24) (k : Nat) : sideN X y k = cntB (fun i => hasB X i y && !(besN X y k).testBit i) 20 := by
  unfold sideN popN
  refine cntB_congr fun x _ => ?_
  rw [lessN_bit (besN_lt hg hy k) (by have := NX_lt hg hy; omega)]
  rfl
theorem edge_rows {X : List Int} (hg : goodR X = true) : ∀ y, y ≤ 24 → opTo X (cellsK X (20 * y)) (cellsK X (20 * y)).length = edgeTo X y
  | 0, _ => rfl
  | y + 1, h => by
    rw [show 20 * (y + 1) = 20 * y + 20 by omega, opTo_row X y 20 (Nat.le_refl _), edge_rows hg y (by omega), rowO_sum X (fun x k => (besN X y k).testBit x) (fun x k hx hk => bes_bit hg hx (by omega) hk) 20 (Nat.le_refl _)]
    show _ = edgeTo X y + _
    rw [side_cnt hg (by omega) 0, side_cnt hg (by omega) 1, side_cnt hg (by omega) 2, side_cnt hg (by omega) 3]
theorem rd_at {W : World} {a : Option Addr} {n : Nat} {X : List Int} (h : RdI W a n X) (hn : 0 < n) : ∃ b o, a = some ⟨b, o, none⟩ ∧ ∀ i, i < n → W.cell? ⟨b, o + i, none⟩ = some (.int .i64 (X.getD i 0)) := by
  obtain ⟨b, o, e, _, hc⟩ := h.2 hn
  exact ⟨b, o, e, hc⟩
set_option maxRecDepth 100000 in
set_option maxHeartbeats 8000000 in
theorem edge_spec (X : List Int) (n : Nat) (a : Option Addr) (c : Nat) (w : World) (h : RdI w a n X) (hn : n ≤ 1048577) :
    Calls Try.prog 34 #[.agg #[.slice a n c]] w fun e w' => e = .returned (.tuple #[.int .i64 (if goodR X then (edgeTo X 24 : Int) else 0), .bool (goodR X)]) ∧ Below w.heap.size w w' := by
  have XA := BoxF.new w [.slice a n c] 28
  have hb := (Below.refl _ w).alloc (Nat.le_refl _) (.cells #[.slice a n c] 28 (0, 0))
  have c1 := XA.one.1
  have HR := Lib.hid h
  have CV := Lib.hid (good_spec X n a c _ (h.below hb) hn)
  have HX0 := Lib.hid XA
  have HB0 := Lib.hid hb
  clear h hb XA
  cases hg : goodR X
  · rw [hg] at CV
    clear hg
    go_enter Try.func34, Try.ntmps34
    go_wp2_with fail
    refine CV.out.mono ?_
    rintro e w1 ⟨rfl, hb1⟩
    have HB1 := Lib.hid (HB0.out.trans (hb1.mono HB0.out.size))
    clear hb1 HX0 c1
    go_wp2_with fail
    go_ret2
    exact ⟨rfl, HB1.out⟩
  · rw [hg] at CV
    have h24 : n = 24 := by rw [← HR.out.1]; exact goodR_len hg
    subst h24
    have HG := Lib.hid hg
    have HC := Lib.hid (fun W (h : RdI W a 24 X) => cells_spec X a c W h hg)
    have he := edge_rows hg 24 (Nat.le_refl _)
    rw [show 20 * 24 = 480 from rfl] at he
    rw [← he, if_pos rfl]
    have hl := cellsK_len X 480
    have hmem : ∀ i, i < (cellsK X 480).length → ∃ z : Nat, (cellsK X 480).getD i 0 = (z : Int) ∧ z < 480 := fun i hi => cellsK_mem hi
    have HOP := Lib.hid (fun i => opTo_le X (cellsK X 480) i)
    generalize hY : cellsK X 480 = Y at *
    obtain ⟨L, hL⟩ : ∃ L, Y.length = L := ⟨_, rfl⟩
    rw [hL] at HC hl hmem ⊢
    have HM := Lib.hid hmem
    clear hg he hY hL hmem
    go_enter Try.func34, Try.ntmps34
    go_wp2_with fail
    refine CV.out.mono ?_
    rintro e w1 ⟨rfl, hb1⟩
    have HX1 := Lib.hid (HX0.out.below hb1)
    have HB1 := Lib.hid (HB0.out.trans (hb1.mono HB0.out.size))
    have c1 := HX1.out.one.1
    clear hb1 HX0 HB0 CV
    go_wp2_with fail
    refine (HC.out _ (HR.out.below HB1.out)).mono ?_
    rintro e w2 ⟨p, k, rfl, ho, hb2⟩
    have HX2 := Lib.hid (HX1.out.below hb2)
    have HB2 := Lib.hid (HB1.out.trans (hb2.mono HB1.out.size))
    have HO2 := Lib.hid ho.rd
    clear ho hb2 c1 HX1 HB1
    go_wp2_with fail
    go_loopw [4, 6] (fun v i wr => ∃ j : Nat, j ≤ L ∧ i = .int .i64 (j : Int) ∧ v = .int .i64 (opTo X Y j : Int) ∧ Hid (RdI wr p L Y) ∧ Hid (BoxF wr w.heap.size [.slice a 24 c] 28) ∧ Hid (Below w.heap.size w wr)) (fun _ i _ => L - (intOf i).toNat)
    case atStart => exact ⟨0, by omega, rfl, rfl, HO2, HX2, HB2⟩
    case round =>
      clear HO2 HX2 HB2
      obtain ⟨j, hj, rfl, rfl, HO, HX, HB⟩ := hrel
      by_cases hlt : j < L
      · have elj : decide ((j : Int) < (L : Int)) = true := decide_eq_true (by omega)
        obtain ⟨z, hz, hz2⟩ := HM.out j hlt
        obtain ⟨b3, o3, rfl, hbl, hc3⟩ := HO.out.2 (by omega)
        have x2 := hc3 j hlt
        rw [hz] at x2
        have CBs := Lib.hid (fun W => l9Beside_any ((z : Int) % 20) ((z : Int) / 20) W (by omega) (by omega) (by omega) (by omega))
        have hst : opTo X Y (j + 1) = opTo X Y j + openN X (Y.getD j 0).toNat := rfl
        rw [hz, Int.toNat_natCast] at hst
        have HST := Lib.hid hst
        have hle := HOP.out j
        generalize opTo X Y j = A at *
        clear hc3 hst hz
        go_upto_region 8 with fail
        refine wp_region_noPanic ?_
        refine wp_region_held_drew (S := fun W => W.cell? ⟨b3, o3 + j, none⟩ = some (.int .i64 (z : Int)) ∧ Below wr.heap.size wr W) (by kernel_rfl) ⟨x2, below_drewN' (Below.refl _ wr) 1⟩ (fun hHeld => ?_)
        generalize wr.drew = Wd at *
        clear x2
        refine wpAnyH_take (i := 0) (oi := { dst := some 20, op := _, type := _, pos := _, after := _, guard := _ }) (v := .slice (some ⟨b3, o3, none⟩) L k) rfl (by kernel_rfl) (by kernel_rfl) (by kernel_rfl) (fun _ _ _ h => h) (Or.inl ⟨by rfl, ?_⟩) hHeld ?_
        · (intro w_ hSw; clear hSw; go_simp; first | done | with_reducible rfl | rfl | (intro h_; omega) | (simp only [IntKind.wrap, IntKind.bits, IntKind.signed]; omega) | (simp [IntKind.wrap, IntKind.bits, IntKind.signed]; omega))
        set_option linter.unusedSimpArgs false in try simp only [Act.put, List.setIfInBounds_toArray, List.set_cons_zero, List.set_cons_succ]
        refine wpAnyH_take (i := 1) (oi := { dst := some 21, op := _, type := _, pos := _, after := _, guard := _ }) (v := .int .i64 (j : Int)) rfl (by kernel_rfl) (by kernel_rfl) (by kernel_rfl) (fun _ _ _ h => h) (Or.inl ⟨by rfl, ?_⟩) hHeld ?_
        · (intro w_ hSw; clear hSw; go_simp; first | done | with_reducible rfl | rfl | (intro h_; omega) | (simp only [IntKind.wrap, IntKind.bits, IntKind.signed]; omega) | (simp [IntKind.wrap, IntKind.bits, IntKind.signed]; omega))
        set_option linter.unusedSimpArgs false in try simp only [Act.put, List.setIfInBounds_toArray, List.set_cons_zero, List.set_cons_succ]
        refine wpAnyH_take (i := 2) (oi := { dst := some 22, op := _, type := _, pos := _, after := _, guard := _ }) (v := .pointer (some ⟨b3, o3 + j, none⟩)) rfl (by kernel_rfl) (by kernel_rfl) (by kernel_rfl) (fun _ _ _ h => h) (Or.inl ⟨by rfl, ?_⟩) hHeld ?_
        · (intro w_ hSw; clear hSw; go_simp; first | done | with_reducible rfl | rfl | (intro h_; omega) | (simp only [IntKind.wrap, IntKind.bits, IntKind.signed]; omega) | (simp [IntKind.wrap, IntKind.bits, IntKind.signed]; omega))
        set_option linter.unusedSimpArgs false in try simp only [Act.put, List.setIfInBounds_toArray, List.set_cons_zero, List.set_cons_succ]
        refine wpAnyH_take (i := 3) (oi := { dst := some 23, op := _, type := _, pos := _, after := _, guard := _ }) (v := .int .i64 (z : Int)) rfl (by kernel_rfl) (by kernel_rfl) (by kernel_rfl) (fun _ _ _ h => h) (Or.inl ⟨by rfl, ?_⟩) hHeld ?_
        · (intro w_ hSw; have c_ := hSw.1; clear hSw; go_simp; first | done | with_reducible rfl | rfl | (intro h_; omega) | (simp only [IntKind.wrap, IntKind.bits, IntKind.signed]; omega) | (simp [IntKind.wrap, IntKind.bits, IntKind.signed]; omega))
        set_option linter.unusedSimpArgs false in try simp only [Act.put, List.setIfInBounds_toArray, List.set_cons_zero, List.set_cons_succ]
        refine wpAnyH_take (i := 4) (oi := { dst := some 24, op := _, type := _, pos := _, after := _, guard := _ }) (v := .int .i64 ((z : Int) % 20)) rfl (by kernel_rfl) (by kernel_rfl) (by kernel_rfl) (fun _ _ _ h => h) (Or.inl ⟨by rfl, ?_⟩) hHeld ?_
        · (intro w_ hSw; clear hSw; go_simp; first | done | with_reducible rfl | rfl | (intro h_; omega) | (simp only [IntKind.wrap, IntKind.bits, IntKind.signed]; omega) | (simp [IntKind.wrap, IntKind.bits, IntKind.signed]; omega))
        set_option linter.unusedSimpArgs false in try simp only [Act.put, List.setIfInBounds_toArray, List.set_cons_zero, List.set_cons_succ]
        refine wpAnyH_take (i := 5) (oi := { dst := some 25, op := _, type := _, pos := _, after := _, guard := _ }) (v := .slice (some ⟨b3, o3, none⟩) L k) rfl (by kernel_rfl) (by kernel_rfl) (by kernel_rfl) (fun _ _ _ h => h) (Or.inl ⟨by rfl, ?_⟩) hHeld ?_
        · (intro w_ hSw; clear hSw; go_simp; first | done | with_reducible rfl | rfl | (intro h_; omega) | (simp only [IntKind.wrap, IntKind.bits, IntKind.signed]; omega) | (simp [IntKind.wrap, IntKind.bits, IntKind.signed]; omega))
        set_option linter.unusedSimpArgs false in try simp only [Act.put, List.setIfInBounds_toArray, List.set_cons_zero, List.set_cons_succ]
        refine wpAnyH_take (i := 6) (oi := { dst := some 26, op := _, type := _, pos := _, after := _, guard := _ }) (v := .int .i64 (j : Int)) rfl (by kernel_rfl) (by kernel_rfl) (by kernel_rfl) (fun _ _ _ h => h) (Or.inl ⟨by rfl, ?_⟩) hHeld ?_
        · (intro w_ hSw; clear hSw; go_simp; first | done | with_reducible rfl | rfl | (intro h_; omega) | (simp only [IntKind.wrap, IntKind.bits, IntKind.signed]; omega) | (simp [IntKind.wrap, IntKind.bits, IntKind.signed]; omega))
        set_option linter.unusedSimpArgs false in try simp only [Act.put, List.setIfInBounds_toArray, List.set_cons_zero, List.set_cons_succ]
        refine wpAnyH_take (i := 7) (oi := { dst := some 27, op := _, type := _, pos := _, after := _, guard := _ }) (v := .pointer (some ⟨b3, o3 + j, none⟩)) rfl (by kernel_rfl) (by kernel_rfl) (by kernel_rfl) (fun _ _ _ h => h) (Or.inl ⟨by rfl, ?_⟩) hHeld ?_
        · (intro w_ hSw; clear hSw; go_simp; first | done | with_reducible rfl | rfl | (intro h_; omega) | (simp only [IntKind.wrap, IntKind.bits, IntKind.signed]; omega) | (simp [IntKind.wrap, IntKind.bits, IntKind.signed]; omega))
        set_option linter.unusedSimpArgs false in try simp only [Act.put, List.setIfInBounds_toArray, List.set_cons_zero, List.set_cons_succ]
        refine wpAnyH_take (i := 8) (oi := { dst := some 28, op := _, type := _, pos := _, after := _, guard := _ }) (v := .int .i64 (z : Int)) rfl (by kernel_rfl) (by kernel_rfl) (by kernel_rfl) (fun _ _ _ h => h) (Or.inl ⟨by rfl, ?_⟩) hHeld ?_
        · (intro w_ hSw; have c_ := hSw.1; clear hSw; go_simp; first | done | with_reducible rfl | rfl | (intro h_; omega) | (simp only [IntKind.wrap, IntKind.bits, IntKind.signed]; omega) | (simp [IntKind.wrap, IntKind.bits, IntKind.signed]; omega))
        set_option linter.unusedSimpArgs false in try simp only [Act.put, List.setIfInBounds_toArray, List.set_cons_zero, List.set_cons_succ]
        refine wpAnyH_take (i := 9) (oi := { dst := some 29, op := _, type := _, pos := _, after := _, guard := _ }) (v := .int .i64 ((z : Int) / 20)) rfl (by kernel_rfl) (by kernel_rfl) (by kernel_rfl) (fun _ _ _ h => h) (Or.inl ⟨by rfl, ?_⟩) hHeld ?_
        · (intro w_ hSw; clear hSw; go_simp; first | done | with_reducible rfl | rfl | (intro h_; omega) | (simp only [IntKind.wrap, IntKind.bits, IntKind.signed]; omega) | (simp [IntKind.wrap, IntKind.bits, IntKind.signed]; omega))
        set_option linter.unusedSimpArgs false in try simp only [Act.put, List.setIfInBounds_toArray, List.set_cons_zero, List.set_cons_succ]
        refine wpAnyH_ready (rs := [10]) (by kernel_rfl) (by simp) ?_
        refine AllReadyH.cons rfl (fun K hK => ?_) ?_
        rotate_left
        · exact AllReadyH.nil
        try rw [if_pos (by rfl)]
        go_simp
        refine (CBs.out _).mono ?_
        rintro e w3 ⟨p4, rfl, hL4, hb3⟩
        have hw3 : Below wr.heap.size wr w3 := hHeld.2.trans (hb3.mono hHeld.2.size)
        have g0 : w3.cell? ⟨b3, o3 + j, none⟩ = some (.int .i64 (z : Int)) ∧ Below wr.heap.size wr w3 := ⟨(hb3.cell (p := ⟨b3, o3 + j, none⟩) (Nat.lt_of_lt_of_le hbl hHeld.2.size)).trans hHeld.1, hw3⟩
        have HL4 := Lib.hid hL4
        clear hL4 hb3
        go_wp2_with fail
        refine hK.out _ _ g0 (fun hHeld => ?_)
        clear hK K g0
        set_option linter.unusedSimpArgs false in try simp only [Act.put, List.setIfInBounds_toArray, List.set_cons_zero, List.set_cons_succ]
        refine wpAnyH_take (i := 11) (oi := { dst := some 7, op := _, type := _, pos := _, after := _, guard := _ }) (v := .slice (some ⟨p4, 0, none⟩) 4 4) rfl (by kernel_rfl) (by kernel_rfl) (by kernel_rfl) (fun _ _ _ h => h) (Or.inl ⟨by rfl, ?_⟩) hHeld ?_
        · (intro w_ hSw; clear hSw; go_simp; first | done | with_reducible rfl | rfl | (intro h_; omega) | (simp only [IntKind.wrap, IntKind.bits, IntKind.signed]; omega) | (simp [IntKind.wrap, IntKind.bits, IntKind.signed]; omega))
        set_option linter.unusedSimpArgs false in try simp only [Act.put, List.setIfInBounds_toArray, List.set_cons_zero, List.set_cons_succ]
        refine wpAnyH_done (by kernel_rfl) ?_ _
        refine NoPanic.normal ?_
        have HO3 := Lib.hid (HO.out.below hw3)
        have HX3 := Lib.hid (HX.out.below hw3)
        have HB3 := Lib.hid (HB.out.trans (hw3.mono HB.out.size))
        clear hHeld hw3 HO HX HB CBs
        go_wp2_with fail
        go_loopw [4, 8] (fun v i wr => ∃ q : Nat, q ≤ 4 ∧ i = .int .i64 (q : Int) ∧ v = .int .i64 ((A : Int) + (cntB (fun k => !hasZ X (bxZ ((z : Int) % 20) k) (byZ ((z : Int) / 20) k)) q : Nat)) ∧ Hid (Lies4 wr p4 ((z : Int) % 20) ((z : Int) / 20)) ∧ Hid (RdI wr (some ⟨b3, o3, none⟩) L Y) ∧ Hid (BoxF wr w.heap.size [.slice a 24 c] 28) ∧ Hid (Below w.heap.size w wr)) (fun _ i _ => 4 - (intOf i).toNat)
        case atStart => exact ⟨0, by omega, rfl, by simp [cntB], HL4, HO3, HX3, HB3⟩
        case round =>
          clear HL4 HO3 HX3 HB3

          obtain ⟨q, hq, rfl, rfl, HL4, HO, HX, HB⟩ := hrel
          by_cases hlq : q < 4
          · have elq : decide ((q : Int) < 4) = true := decide_eq_true (by omega)
            obtain ⟨g, y1, y2, y3, y4, y5⟩ := HL4.out q hlq
            have c1 := HX.out.one.1
            have hXl := HX.out.lt
            obtain ⟨bb, hbb⟩ : ∃ b, hasZ X (bxZ ((z : Int) % 20) q) (byZ ((z : Int) / 20) q) = b := ⟨_, rfl⟩
            have CH := Lib.hid (fun W (h : RdI W a 24 X) => l9Has_any X HG.out a c (bxZ ((z : Int) % 20) q) (byZ ((z : Int) / 20) q) W h)
            have hcn : cntB (fun k => !hasZ X (bxZ ((z : Int) % 20) k) (byZ ((z : Int) / 20) k)) (q + 1) = cntB (fun k => !hasZ X (bxZ ((z : Int) % 20) k) (byZ ((z : Int) / 20) k)) q + if !bb then 1 else 0 := by rw [← hbb]; rfl
            have HCN := Lib.hid hcn
            have hc4 := cntB_le (fun k => !hasZ X (bxZ ((z : Int) % 20) k) (byZ ((z : Int) / 20) k)) q
            rw [hbb] at CH
            generalize cntB (fun k => !hasZ X (bxZ ((z : Int) % 20) k) (byZ ((z : Int) / 20) k)) q = D at *
            generalize bxZ ((z : Int) % 20) q = bx at *
            generalize byZ ((z : Int) / 20) q = by_ at *
            clear hcn hbb
            go_upto_region 12 with fail
            refine wp_region_noPanic ?_
            refine wp_region_held_drew (S := fun W => W.cell? ⟨w.heap.size, 0, none⟩ = some (.slice a 24 c) ∧ W.cell? ⟨p4, q, none⟩ = some (.slice (some ⟨g, 0, none⟩) 2 2) ∧ W.cell? ⟨g, 0, none⟩ = some (.int .i64 bx) ∧ W.cell? ⟨g, 1, none⟩ = some (.int .i64 by_) ∧ Below wr.heap.size wr W) (by kernel_rfl) ⟨c1, y1, y2, y3, below_drewN' (Below.refl _ wr) 1⟩ (fun hHeld => ?_)
            generalize wr.drew = Wd at *
            have HRw := Lib.hid (HR.out.below HB.out)
            clear c1 y1 y2 y3
            refine wpAnyH_take (i := 0) (oi := { dst := some 35, op := _, type := _, pos := _, after := _, guard := _ }) (v := .agg #[.slice a 24 c]) rfl (by kernel_rfl) (by kernel_rfl) (by kernel_rfl) (fun _ _ _ h => h) (Or.inl ⟨by rfl, ?_⟩) hHeld ?_
            · (intro w_ hSw; have c_ := hSw.1; clear hSw; go_simp; first | done | with_reducible rfl | rfl | (intro h_; omega) | (simp only [IntKind.wrap, IntKind.bits, IntKind.signed]; omega) | (simp [IntKind.wrap, IntKind.bits, IntKind.signed]; omega))
            set_option linter.unusedSimpArgs false in try simp only [Act.put, List.setIfInBounds_toArray, List.set_cons_zero, List.set_cons_succ]
            refine wpAnyH_take (i := 1) (oi := { dst := some 36, op := _, type := _, pos := _, after := _, guard := _ }) (v := .slice (some ⟨p4, 0, none⟩) 4 4) rfl (by kernel_rfl) (by kernel_rfl) (by kernel_rfl) (fun _ _ _ h => h) (Or.inl ⟨by rfl, ?_⟩) hHeld ?_
            · (intro w_ hSw; clear hSw; go_simp; first | done | with_reducible rfl | rfl | (intro h_; omega) | (simp only [IntKind.wrap, IntKind.bits, IntKind.signed]; omega) | (simp [IntKind.wrap, IntKind.bits, IntKind.signed]; omega))
            set_option linter.unusedSimpArgs false in try simp only [Act.put, List.setIfInBounds_toArray, List.set_cons_zero, List.set_cons_succ]
            refine wpAnyH_take (i := 2) (oi := { dst := some 37, op := _, type := _, pos := _, after := _, guard := _ }) (v := .int .i64 (q : Int)) rfl (by kernel_rfl) (by kernel_rfl) (by kernel_rfl) (fun _ _ _ h => h) (Or.inl ⟨by rfl, ?_⟩) hHeld ?_
            · (intro w_ hSw; clear hSw; go_simp; first | done | with_reducible rfl | rfl | (intro h_; omega) | (simp only [IntKind.wrap, IntKind.bits, IntKind.signed]; omega) | (simp [IntKind.wrap, IntKind.bits, IntKind.signed]; omega))
            set_option linter.unusedSimpArgs false in try simp only [Act.put, List.setIfInBounds_toArray, List.set_cons_zero, List.set_cons_succ]
            refine wpAnyH_take (i := 3) (oi := { dst := some 38, op := _, type := _, pos := _, after := _, guard := _ }) (v := .pointer (some ⟨p4, q, none⟩)) rfl (by kernel_rfl) (by kernel_rfl) (by kernel_rfl) (fun _ _ _ h => h) (Or.inl ⟨by rfl, ?_⟩) hHeld ?_
            · (intro w_ hSw; clear hSw; go_simp; first | done | with_reducible rfl | rfl | (intro h_; omega) | (simp only [IntKind.wrap, IntKind.bits, IntKind.signed]; omega) | (simp [IntKind.wrap, IntKind.bits, IntKind.signed]; omega))
            set_option linter.unusedSimpArgs false in try simp only [Act.put, List.setIfInBounds_toArray, List.set_cons_zero, List.set_cons_succ]
            refine wpAnyH_take (i := 4) (oi := { dst := some 39, op := _, type := _, pos := _, after := _, guard := _ }) (v := .slice (some ⟨g, 0, none⟩) 2 2) rfl (by kernel_rfl) (by kernel_rfl) (by kernel_rfl) (fun _ _ _ h => h) (Or.inl ⟨by rfl, ?_⟩) hHeld ?_
            · (intro w_ hSw; have c_ := hSw.2.1; clear hSw; go_simp; first | done | with_reducible rfl | rfl | (intro h_; omega) | (simp only [IntKind.wrap, IntKind.bits, IntKind.signed]; omega) | (simp [IntKind.wrap, IntKind.bits, IntKind.signed]; omega))
            set_option linter.unusedSimpArgs false in try simp only [Act.put, List.setIfInBounds_toArray, List.set_cons_zero, List.set_cons_succ]
            refine wpAnyH_take (i := 5) (oi := { dst := some 40, op := _, type := _, pos := _, after := _, guard := _ }) (v := .pointer (some ⟨g, 0, none⟩)) rfl (by kernel_rfl) (by kernel_rfl) (by kernel_rfl) (fun _ _ _ h => h) (Or.inl ⟨by rfl, ?_⟩) hHeld ?_
            · (intro w_ hSw; clear hSw; go_simp; first | done | with_reducible rfl | rfl | (intro h_; omega) | (simp only [IntKind.wrap, IntKind.bits, IntKind.signed]; omega) | (simp [IntKind.wrap, IntKind.bits, IntKind.signed]; omega))
            set_option linter.unusedSimpArgs false in try simp only [Act.put, List.setIfInBounds_toArray, List.set_cons_zero, List.set_cons_succ]
            refine wpAnyH_take (i := 6) (oi := { dst := some 41, op := _, type := _, pos := _, after := _, guard := _ }) (v := .int .i64 bx) rfl (by kernel_rfl) (by kernel_rfl) (by kernel_rfl) (fun _ _ _ h => h) (Or.inl ⟨by rfl, ?_⟩) hHeld ?_
            · (intro w_ hSw; have c_ := hSw.2.2.1; clear hSw; go_simp; first | done | with_reducible rfl | rfl | (intro h_; omega) | (simp only [IntKind.wrap, IntKind.bits, IntKind.signed]; omega) | (simp [IntKind.wrap, IntKind.bits, IntKind.signed]; omega))
            set_option linter.unusedSimpArgs false in try simp only [Act.put, List.setIfInBounds_toArray, List.set_cons_zero, List.set_cons_succ]
            refine wpAnyH_take (i := 7) (oi := { dst := some 42, op := _, type := _, pos := _, after := _, guard := _ }) (v := .slice (some ⟨p4, 0, none⟩) 4 4) rfl (by kernel_rfl) (by kernel_rfl) (by kernel_rfl) (fun _ _ _ h => h) (Or.inl ⟨by rfl, ?_⟩) hHeld ?_
            · (intro w_ hSw; clear hSw; go_simp; first | done | with_reducible rfl | rfl | (intro h_; omega) | (simp only [IntKind.wrap, IntKind.bits, IntKind.signed]; omega) | (simp [IntKind.wrap, IntKind.bits, IntKind.signed]; omega))
            set_option linter.unusedSimpArgs false in try simp only [Act.put, List.setIfInBounds_toArray, List.set_cons_zero, List.set_cons_succ]
            refine wpAnyH_take (i := 8) (oi := { dst := some 43, op := _, type := _, pos := _, after := _, guard := _ }) (v := .int .i64 (q : Int)) rfl (by kernel_rfl) (by kernel_rfl) (by kernel_rfl) (fun _ _ _ h => h) (Or.inl ⟨by rfl, ?_⟩) hHeld ?_
            · (intro w_ hSw; clear hSw; go_simp; first | done | with_reducible rfl | rfl | (intro h_; omega) | (simp only [IntKind.wrap, IntKind.bits, IntKind.signed]; omega) | (simp [IntKind.wrap, IntKind.bits, IntKind.signed]; omega))
            set_option linter.unusedSimpArgs false in try simp only [Act.put, List.setIfInBounds_toArray, List.set_cons_zero, List.set_cons_succ]
            refine wpAnyH_take (i := 9) (oi := { dst := some 44, op := _, type := _, pos := _, after := _, guard := _ }) (v := .pointer (some ⟨p4, q, none⟩)) rfl (by kernel_rfl) (by kernel_rfl) (by kernel_rfl) (fun _ _ _ h => h) (Or.inl ⟨by rfl, ?_⟩) hHeld ?_
            · (intro w_ hSw; clear hSw; go_simp; first | done | with_reducible rfl | rfl | (intro h_; omega) | (simp only [IntKind.wrap, IntKind.bits, IntKind.signed]; omega) | (simp [IntKind.wrap, IntKind.bits, IntKind.signed]; omega))
            set_option linter.unusedSimpArgs false in try simp only [Act.put, List.setIfInBounds_toArray, List.set_cons_zero, List.set_cons_succ]
            refine wpAnyH_take (i := 10) (oi := { dst := some 45, op := _, type := _, pos := _, after := _, guard := _ }) (v := .slice (some ⟨g, 0, none⟩) 2 2) rfl (by kernel_rfl) (by kernel_rfl) (by kernel_rfl) (fun _ _ _ h => h) (Or.inl ⟨by rfl, ?_⟩) hHeld ?_
            · (intro w_ hSw; have c_ := hSw.2.1; clear hSw; go_simp; first | done | with_reducible rfl | rfl | (intro h_; omega) | (simp only [IntKind.wrap, IntKind.bits, IntKind.signed]; omega) | (simp [IntKind.wrap, IntKind.bits, IntKind.signed]; omega))
            set_option linter.unusedSimpArgs false in try simp only [Act.put, List.setIfInBounds_toArray, List.set_cons_zero, List.set_cons_succ]
            refine wpAnyH_take (i := 11) (oi := { dst := some 46, op := _, type := _, pos := _, after := _, guard := _ }) (v := .pointer (some ⟨g, 1, none⟩)) rfl (by kernel_rfl) (by kernel_rfl) (by kernel_rfl) (fun _ _ _ h => h) (Or.inl ⟨by rfl, ?_⟩) hHeld ?_
            · (intro w_ hSw; clear hSw; go_simp; first | done | with_reducible rfl | rfl | (intro h_; omega) | (simp only [IntKind.wrap, IntKind.bits, IntKind.signed]; omega) | (simp [IntKind.wrap, IntKind.bits, IntKind.signed]; omega))
            set_option linter.unusedSimpArgs false in try simp only [Act.put, List.setIfInBounds_toArray, List.set_cons_zero, List.set_cons_succ]
            refine wpAnyH_take (i := 12) (oi := { dst := some 47, op := _, type := _, pos := _, after := _, guard := _ }) (v := .int .i64 by_) rfl (by kernel_rfl) (by kernel_rfl) (by kernel_rfl) (fun _ _ _ h => h) (Or.inl ⟨by rfl, ?_⟩) hHeld ?_
            · (intro w_ hSw; have c_ := hSw.2.2.2.1; clear hSw; go_simp; first | done | with_reducible rfl | rfl | (intro h_; omega) | (simp only [IntKind.wrap, IntKind.bits, IntKind.signed]; omega) | (simp [IntKind.wrap, IntKind.bits, IntKind.signed]; omega))
            set_option linter.unusedSimpArgs false in try simp only [Act.put, List.setIfInBounds_toArray, List.set_cons_zero, List.set_cons_succ]
            refine wpAnyH_ready (rs := [13]) (by kernel_rfl) (by simp) ?_
            refine AllReadyH.cons rfl (fun K hK => ?_) ?_
            rotate_left
            · exact AllReadyH.nil
            try rw [if_pos (by rfl)]
            go_simp
            refine (CH.out _ (HRw.out.below hHeld.2.2.2.2)).mono ?_
            rintro e w5 ⟨rfl, hb5⟩
            have hs := hHeld.2.2.2.2.size
            have hw5 : Below wr.heap.size wr w5 := hHeld.2.2.2.2.trans (hb5.mono hs)
            have g0 : w5.cell? ⟨w.heap.size, 0, none⟩ = some (.slice a 24 c) ∧ w5.cell? ⟨p4, q, none⟩ = some (.slice (some ⟨g, 0, none⟩) 2 2) ∧ w5.cell? ⟨g, 0, none⟩ = some (.int .i64 bx) ∧ w5.cell? ⟨g, 1, none⟩ = some (.int .i64 by_) ∧ Below wr.heap.size wr w5 := ⟨(hb5.cell (p := ⟨w.heap.size, 0, none⟩) (Nat.lt_of_lt_of_le hXl hs)).trans hHeld.1, (hb5.cell (p := ⟨p4, q, none⟩) (Nat.lt_of_lt_of_le y4 hs)).trans hHeld.2.1, (hb5.cell (p := ⟨g, 0, none⟩) (Nat.lt_of_lt_of_le y5 hs)).trans hHeld.2.2.1, (hb5.cell (p := ⟨g, 1, none⟩) (Nat.lt_of_lt_of_le y5 hs)).trans hHeld.2.2.2.1, hw5⟩
            clear hb5
            go_wp2_with fail
            refine hK.out _ _ g0 (fun hHeld => ?_)
            clear hK K g0
            set_option linter.unusedSimpArgs false in try simp only [Act.put, List.setIfInBounds_toArray, List.set_cons_zero, List.set_cons_succ]
            refine wpAnyH_take (i := 14) (oi := { dst := some 49, op := _, type := _, pos := _, after := _, guard := _ }) (v := .bool !bb) rfl (by kernel_rfl) (by kernel_rfl) (by kernel_rfl) (fun _ _ _ h => h) (Or.inl ⟨by rfl, ?_⟩) hHeld ?_
            · (intro w_ hSw; clear hSw; go_simp; first | done | with_reducible rfl | rfl | (intro h_; omega) | (simp only [IntKind.wrap, IntKind.bits, IntKind.signed]; omega) | (simp [IntKind.wrap, IntKind.bits, IntKind.signed]; omega))
            set_option linter.unusedSimpArgs false in try simp only [Act.put, List.setIfInBounds_toArray, List.set_cons_zero, List.set_cons_succ]
            refine wpAnyH_done (by kernel_rfl) ?_ _
            refine NoPanic.normal ?_
            have HL5 := Lib.hid (HL4.out.below hw5)
            have HO5 := Lib.hid (HO.out.below hw5)
            have HX5 := Lib.hid (HX.out.below hw5)
            have HB5 := Lib.hid (HB.out.trans (hw5.mono HB.out.size))
            clear hHeld hw5 HO HX HB HL4 CH HRw
            cases bb
            all_goals
              go_wp2_with fail
              go_roundw
              case rel => exact ⟨q + 1, by omega, by go_num, by rw [HCN.out]; go_num, HL5, HO5, HX5, HB5⟩
              case measure => simp [intOf]; omega
          · have elq : decide ((q : Int) < 4) = false := decide_eq_false (by omega)
            obtain rfl : q = 4 := by omega
            go_wp2_with fail
            go_roundw
            case rel => exact ⟨j + 1, by omega, by go_num, by rw [HST.out]; unfold openN; go_num, HO, HX, HB⟩
            case measure => simp [intOf]; omega
      · have elj : decide ((j : Int) < (L : Int)) = false := decide_eq_false (by omega)
        obtain rfl : j = L := by omega
        go_wp2_with fail
        go_ret2
        exact ⟨rfl, HB.out⟩
theorem edge_both (X : List Int) (n : Nat) (_hl : X.length = n) (hwf : WfI X) (hn : n ≤ 1048576) :
    ∃ (m : Int) (r : Bool), (∀ W a c, RdI W a n X → Calls Try.prog 34 #[.agg #[.slice a n c]] W fun e w' => e = .returned (.tuple #[.int .i64 m, .bool r]) ∧ Below W.heap.size W w') ∧ (∀ W a c, RdI W a n X → Calls Try.prog 35 #[.agg #[.slice a n c]] W fun e w' => e = .returned (.tuple #[.int .i64 m, .bool r]) ∧ Below W.heap.size W w') :=
  ⟨_, _, fun W a c h => edge_spec X n a c W h (by omega), fun W a c h => edge_impl X n a c W h hwf (by omega)⟩
end Go.Proofs.Ytmmbhglmafnfpaa
