/- Contract: the program's firstPiece. -/
import Derived.Test.YteekleibddjblaaC9Y
import Derived.WalkMore
import Derived.Deep.LoopGhost
namespace Go.Proofs.Yteekleibddjblaa
open Go.RowKit

theorem nr_set {P : List Int} (h : NR P) {k r : Nat} (hr : r < 1048576) : NR (P.set k (r : Int)) := by
  refine ⟨by rw [List.length_set]; exact h.1, fun j hj => ?_⟩
  by_cases e : k = j
  · subst e
    have h1 : (P.set k (r : Int)).getD k 0 = (r : Int) := by simp [List.getD, h.1, hj]
    unfold NX
    rw [h1]
    exact ⟨by simp, by simpa using hr⟩
  · have h1 : (P.set k (r : Int)).getD j 0 = P.getD j 0 := by simp [List.getD, e]
    unfold NX
    rw [h1]
    exact h.2 j hj
theorem nx_set {P : List Int} (h : NR P) {k r : Nat} (hk : k < 24) : NX (P.set k (r : Int)) k = r := by
  unfold NX
  have h1 : (P.set k (r : Int)).getD k 0 = (r : Int) := by simp [List.getD, h.1, hk]
  rw [h1]; simp
theorem nx_set_ne {P : List Int} {k j r : Nat} (hk : k ≠ j) : NX (P.set k (r : Int)) j = NX P j := by
  unfold NX
  have h1 : (P.set k (r : Int)).getD j 0 = P.getD j 0 := by simp [List.getD, hk]
  rw [h1]
/-- How far the rows can still grow. -/
def potN (P : List Int) : Nat → Nat
  | 0 => 0
  | k + 1 => potN P k + (1048576 - NX P k)
theorem potN_set {P : List Int} (h : NR P) {k r : Nat} (hk : k < 24) (hr : r < 1048576) (hlt : NX P k < r) : ∀ j, potN (P.set k (r : Int)) j ≤ potN P j ∧ (k < j → potN (P.set k (r : Int)) j < potN P j)
  | 0 => ⟨Nat.le_refl _, fun h => absurd h (Nat.not_lt_zero _)⟩
  | j + 1 => by
    obtain ⟨h1, h2⟩ := potN_set h hk hr hlt j
    show potN _ j + (1048576 - NX _ j) ≤ potN P j + (1048576 - NX P j) ∧ (_ → potN _ j + (1048576 - NX _ j) < potN P j + (1048576 - NX P j))
    by_cases e : k = j
    · subst e
      rw [nx_set h hk]
      exact ⟨by omega, fun _ => by omega⟩
    · rw [nx_set_ne e]
      exact ⟨by omega, fun h3 => by have := h2 (by omega); omega⟩
theorem bes_lt {P : List Int} (hP : NR P) {y : Nat} (hy : y < 24) (k : Nat) : besN P y k < 1099511627776 := by
  have h0 := (hP.2 y hy).2
  unfold besN
  split
  · omega
  · split
    · omega
    · split
      · split
        · omega
        · have := (hP.2 (y - 1) (by omega)).2; omega
      · split
        · have := (hP.2 (y + 1) (by omega)).2; omega
        · omega
theorem grow_or {P F : List Int} (hP : NR P) (hF : NR F) {y : Nat} (hy : y < 24) (k : Nat) : bits .or .i64 ((grownN P F y k : Nat) : Int) ((besN P y k &&& NX F y : Nat) : Int) = ((grownN P F y (k + 1) : Nat) : Int) := by
  have h1 := grownN_lt hP hF hy k
  have h2 := (hF.2 y hy).2
  have h3 : besN P y k &&& NX F y < 2 ^ 20 := Nat.and_lt_two_pow _ (by omega)
  exact i64_or_nat _ _ (by omega) (by omega)
theorem ix4_0 (v0 v1 v2 v3 : Int) (w : World) : (Instr.index 75 (.agg #[.int .i64 v0, .int .i64 v1, .int .i64 v2, .int .i64 v3]) (.int .i64 0)).run Try.prog w = .ok (.int .i64 v0) w := by
  kernel_rfl
theorem ix4_1 (v0 v1 v2 v3 : Int) (w : World) : (Instr.index 75 (.agg #[.int .i64 v0, .int .i64 v1, .int .i64 v2, .int .i64 v3]) (.int .i64 1)).run Try.prog w = .ok (.int .i64 v1) w := by
  kernel_rfl
theorem ix4_2 (v0 v1 v2 v3 : Int) (w : World) : (Instr.index 75 (.agg #[.int .i64 v0, .int .i64 v1, .int .i64 v2, .int .i64 v3]) (.int .i64 2)).run Try.prog w = .ok (.int .i64 v2) w := by
  kernel_rfl
theorem ix4_3 (v0 v1 v2 v3 : Int) (w : World) : (Instr.index 75 (.agg #[.int .i64 v0, .int .i64 v1, .int .i64 v2, .int .i64 v3]) (.int .i64 3)).run Try.prog w = .ok (.int .i64 v3) w := by
  kernel_rfl
/-- A piece that grows: it has the first cell, and nothing but what is reached from it. -/
def PIn (F P : List Int) (c0 : Nat) : Prop := cellR P c0 ∧ ∀ d, cellR P d → ReachN (cellR F) c0 d
theorem pin_grow {F P : List Int} {c0 k : Nat} (hP : NR P) (hF : NR F) (hk : k < 24) (h : PIn F P c0) : PIn F (P.set k ((grownN P F k 4 : Nat) : Int)) c0 := by
  have hr := grownN_lt hP hF hk 4
  refine ⟨?_, fun d hd => ?_⟩
  · obtain ⟨h1, h2⟩ := h.1
    refine ⟨h1, ?_⟩
    by_cases e : k = c0 / 20
    · rw [← e, nx_set hP hk, grownN_bit]
      rw [← e] at h2
      exact .inl h2
    · rw [nx_set_ne e]; exact h2
  · obtain ⟨h1, h2⟩ := hd
    by_cases e : k = d / 20
    · rw [← e, nx_set hP hk, grownN_bit] at h2
      rcases h2 with h2 | ⟨h2, h3⟩
      · exact h.2 d ⟨h1, by rw [← e]; exact h2⟩
      · have hx : d % 20 < 20 := Nat.mod_lt _ (by omega)
        obtain ⟨b, hb, hn⟩ := (bes_next hP hx hk).1 h2
        have ed : 20 * k + d % 20 = d := by omega
        rw [ed] at hn
        exact .step (h.2 b hb) hn ⟨h1, by rw [← e]; exact h3⟩
    · rw [nx_set_ne e] at h2
      exact h.2 d ⟨h1, h2⟩
theorem pin_done {F P : List Int} {c0 : Nat} (hP : NR P) (h : PIn F P c0) (hall : ∀ i, i < 24 → grownN P F i 4 = NX P i) (d : Nat) : cellR P d ↔ ReachN (cellR F) c0 d := by
  refine ⟨h.2 d, fun hr => hr.closed (fun a b ha hn hb => ?_) h.1⟩
  have hy : b / 20 < 24 := by have := hb.1; omega
  have hx : b % 20 < 20 := Nat.mod_lt _ (by omega)
  have eb : 20 * (b / 20) + b % 20 = b := by omega
  refine ⟨hb.1, ?_⟩
  rw [← hall _ hy, grownN_bit]
  refine .inr ⟨?_, hb.2⟩
  exact (bes_next hP hx hy).2 ⟨a, ha, by rw [eb]; exact hn⟩
theorem z24_at (i : Nat) : (List.replicate 24 (0 : Int)).getD i 0 = 0 := by
  unfold List.getD
  rw [List.getElem?_replicate]
  split <;> rfl
theorem z24_nx (i : Nat) : NX (List.replicate 24 (0 : Int)) i = 0 := by unfold NX; rw [z24_at]; rfl
theorem pin_start {F : List Int} {y j : Nat} (hy : y < 24) (hj : j < 20) (hb : (NX F y).testBit j = true) : NR ((List.replicate 24 (0 : Int)).set y ((2 ^ j : Nat) : Int)) ∧ PIn F ((List.replicate 24 (0 : Int)).set y ((2 ^ j : Nat) : Int)) (20 * y + j) := by
  have hz : NR (List.replicate 24 (0 : Int)) := ⟨by simp, fun i _ => by rw [z24_nx, z24_at]; exact ⟨rfl, by omega⟩⟩
  have hp : 2 ^ j < 1048576 := by
    have := Nat.pow_lt_pow_right (a := 2) (by decide) hj
    omega
  refine ⟨nr_set hz hp, ?_, fun d hd => ?_⟩
  · refine (cellR_at _ hj hy).2 ?_
    rw [nx_set hz hy, Nat.testBit_two_pow]; simp
  · obtain ⟨h1, h2⟩ := hd
    by_cases e : y = d / 20
    · rw [← e, nx_set hz hy, Nat.testBit_two_pow] at h2
      have h3 : j = d % 20 := by simpa using h2
      have ed : 20 * y + j = d := by omega
      rw [← ed]
      exact .here ((cellR_at F hj hy).2 hb)
    · rw [nx_set_ne e] at h2
      rw [z24_nx] at h2
      simp at h2

set_option maxRecDepth 100000 in
set_option maxHeartbeats 8000000 in
theorem firstPiece_any (F : List Int) (a : Option Addr) (c y : Nat) (w : World) (hR : RdI w a 24 F) (hF : NR F) (hy : y < 24) (hne : NX F y ≠ 0) :
    Calls Try.prog 56 #[.slice a 24 c, .int .i64 (y : Int)] w fun e w' => ∃ (P : List Int) (g j : Nat), e = .returned (.slice (some ⟨g, 0, none⟩) 24 24) ∧ OwnI w' w.heap.size (some ⟨g, 0, none⟩) 24 24 P ∧ NR P ∧ (j < 20 ∧ (NX F y).testBit j = true ∧ ∀ x, x < j → (NX F y).testBit x = false) ∧ (∀ d, cellR P d ↔ ReachN (cellR F) (20 * y + j) d) ∧ Below w.heap.size w w' := by
  obtain ⟨i0, hi, hz0, hz1, hz2⟩ := info_parts infoI
  obtain ⟨j, hj20, hjb, hjmin, hlow⟩ := low_bit hne (hF.2 y hy).2
  obtain ⟨hS1, hS2⟩ := pin_start hy hj20 hjb
  obtain ⟨b3, o3, rfl, hlt3, hc3⟩ := hR.2 (by omega)
  have x2 := hc3 y hy
  rw [(hF.2 y hy).1] at x2
  have hN := (hF.2 y hy).2
  have hneg : IntKind.i64.wrap (-((NX F y : Nat) : Int)) = -((NX F y : Nat) : Int) := by simp [IntKind.wrap, IntKind.bits, IntKind.signed]; omega
  have HR := Lib.hid hR
  have HF := Lib.hid hF
  have HJ := Lib.hid (And.intro hj20 (And.intro hjb hjmin))
  have HS := Lib.hid (And.intro hS1 hS2)
  obtain ⟨NY, hNY⟩ : ∃ q, NX F y = q := ⟨_, rfl⟩
  rw [hNY] at x2 hN hneg hlow
  obtain ⟨PJ, hPJ⟩ : ∃ q, 2 ^ j = q := ⟨_, rfl⟩
  rw [hPJ] at hlow HS
  clear hjb hjmin hc3 hR hF hne hNY hS1 hS2 hPJ
  go_enter Try.func56, Try.ntmps56
  go_wp2_with fail
  go_step3
  go_wp2_with (at_make; refine wpList_make_full _ rfl _ _ 26 rfl w.heap.size 3 i0 (.int .i64 0) 1 Try.underlying26 hi hz0 hz1 .i64 .i64 24 24 24 rfl rfl rfl rfl (by rw [hz2]; omega) (by unfold maxLen; omega) (by simp) ?_; intro w1 hown1 hgr1)
  have hfil : OwnI w1 w.heap.size (some ⟨w.heap.size, 0, none⟩) 24 24 (List.replicate 24 0) := by
    unfold OwnI
    rw [List.map_replicate, ← toList_madeCells_one]
    rw [Nat.mul_one] at hown1
    exact hown1
  have hB1 : Below w.heap.size w w1 := (Below.refl _ w).grown hgr1 (Nat.le_refl _) (by simp)
  have y2 := (hB1.cell (p := ⟨b3, o3 + y, none⟩) hlt3).trans x2
  have hc1 := hfil.cellAt y (by simp; omega)
  have hv0 : ((List.replicate 24 (0 : Int)).map (Value.int .i64))[y]? = some (.int .i64 0) := by rw [List.getElem?_map, List.getElem?_replicate, if_pos hy]; rfl
  rw [hv0] at hc1
  have hf1 := hfil.frozenAt y
  have HO1 := Lib.hid hfil
  have HB1 := Lib.hid hB1
  clear hown1 hgr1 hfil hB1 hv0
  go_upto_region 2 with fail
  go_region
  have HO2 := HO1.out.stored y (.int .i64 (PJ : Int))
  have HB2 := Lib.hid (HB1.out.grown HO2.2 HB1.out.size (fun q hq => by cases hq; exact Nat.le_refl _))
  have HO3 := Lib.hid (show OwnI (w1.setCell ⟨w.heap.size, y, none⟩ (.int .i64 (PJ : Int))) w.heap.size (some ⟨w.heap.size, 0, none⟩) 24 24 ((List.replicate 24 (0 : Int)).set y (PJ : Int)) by
    unfold OwnI
    rw [List.map_set]
    exact HO2.1)
  have HO4 := Lib.hid (HO3.out.drewN 1)
  have HB4 := Lib.hid (below_drewN' HB2.out 1)
  clear HO1 HB1 HO2 HB2 HO3 hc1 hf1 y2 x2 hneg hlow hN
  generalize (List.replicate 24 (0 : Int)).set y (PJ : Int) = P0 at *
  go_wp2_with fail
  go_step3
  go_wp2_with fail
  go_loopg [] (potN P0 24) (fun g wr => ∃ P : List Int, potN P 24 = g ∧ Hid (OwnI wr w.heap.size (some ⟨w.heap.size, 0, none⟩) 24 24 P) ∧ Hid (NR P ∧ PIn F P (20 * y + j)) ∧ Hid (Below w.heap.size w wr))
  case atStart => exact ⟨P0, rfl, HO4, HS, HB4⟩
  case round =>
    obtain ⟨P, hpot, HO, HP, HB⟩ := hrel
    clear HO4 HB4 HS
    subst hpot
    go_wp2_with fail
    go_loopg [29] 24 (fun g2 i wy => ∃ k : Nat, k + g2 = 24 ∧ i = .int .i64 (k : Int) ∧ Hid (∀ i, i < k → grownN P F i 4 = NX P i) ∧ Hid (OwnI wy w.heap.size (some ⟨w.heap.size, 0, none⟩) 24 24 P) ∧ Hid (Below w.heap.size w wy))
    case atStart => exact ⟨0, by omega, rfl, Lib.hid (fun i hi => absurd hi (Nat.not_lt_zero _)), HO, HB⟩
    case round =>
      obtain ⟨k, hkg, rfl, HA, HO, HB⟩ := hrel
      by_cases hlt : k < 24
      · have elk : decide ((k : Int) < 24) = true := decide_eq_true (by omega)
        have hRw := HR.out.below HB.out
        have CB := Lib.hid (besideRow_any P (some ⟨w.heap.size, 0, none⟩) 24 k _ HO.out.rd (fun i hi => (HP.out.1.2 i hi).1) (fun i hi => (HP.out.1.2 i hi).2) hlt)
        obtain ⟨_, _, eq1, _, hc3⟩ := hRw.2 (by omega)
        cases eq1
        have x2 := hc3 k hlt
        rw [(HF.out.2 k hlt).1] at x2
        have p2 := HO.out.cellAt k (by have := HP.out.1.1; simp; omega)
        have hpv : (P.map (Value.int .i64))[k]? = some (.int .i64 ((NX P k : Nat) : Int)) := by
          have hl := HP.out.1.1
          have e := (HP.out.1.2 k hlt).1
          rw [List.getElem?_map, List.getElem?_eq_getElem (by omega)]
          simp only [List.getD, List.getElem?_eq_getElem (show k < P.length by omega), Option.getD_some] at e
          rw [Option.map_some, e]
        rw [hpv] at p2
        have nf := (HF.out.2 k hlt).2
        have np := (HP.out.1.2 k hlt).2
        have a0 : bits .and .i64 ((besN P k 0 : Nat) : Int) ((NX F k : Nat) : Int) = ((besN P k 0 &&& NX F k : Nat) : Int) := i64_and_nat _ _ (bes_lt HP.out.1 hlt 0) (by omega)
        have a1 : bits .and .i64 ((besN P k 1 : Nat) : Int) ((NX F k : Nat) : Int) = ((besN P k 1 &&& NX F k : Nat) : Int) := i64_and_nat _ _ (bes_lt HP.out.1 hlt 1) (by omega)
        have a2 : bits .and .i64 ((besN P k 2 : Nat) : Int) ((NX F k : Nat) : Int) = ((besN P k 2 &&& NX F k : Nat) : Int) := i64_and_nat _ _ (bes_lt HP.out.1 hlt 2) (by omega)
        have a3 : bits .and .i64 ((besN P k 3 : Nat) : Int) ((NX F k : Nat) : Int) = ((besN P k 3 &&& NX F k : Nat) : Int) := i64_and_nat _ _ (bes_lt HP.out.1 hlt 3) (by omega)
        have r0 : bits .or .i64 ((grownN P F k 0 : Nat) : Int) ((besN P k 0 &&& NX F k : Nat) : Int) = ((grownN P F k 1 : Nat) : Int) := grow_or HP.out.1 HF.out hlt 0
        have r1 : bits .or .i64 ((grownN P F k 1 : Nat) : Int) ((besN P k 1 &&& NX F k : Nat) : Int) = ((grownN P F k 2 : Nat) : Int) := grow_or HP.out.1 HF.out hlt 1
        have r2 : bits .or .i64 ((grownN P F k 2 : Nat) : Int) ((besN P k 2 &&& NX F k : Nat) : Int) = ((grownN P F k 3 : Nat) : Int) := grow_or HP.out.1 HF.out hlt 2
        have r3 : bits .or .i64 ((grownN P F k 3 : Nat) : Int) ((besN P k 3 &&& NX F k : Nat) : Int) = ((grownN P F k 4 : Nat) : Int) := grow_or HP.out.1 HF.out hlt 3
        have g4 := grownN_lt HP.out.1 HF.out hlt 4
        have g0 : NX P k = grownN P F k 0 := rfl
        have hle : NX P k ≤ grownN P F k 4 := grownN_le 4
        have HG4 := Lib.hid (show ∀ R, grownN P F k 4 = R → (R = NX P k → ∀ i, i < k + 1 → grownN P F i 4 = NX P i) ∧ (R ≠ NX P k → potN (P.set k ((R : Nat) : Int)) 24 < potN P 24 ∧ NR (P.set k ((R : Nat) : Int)) ∧ PIn F (P.set k ((R : Nat) : Int)) (20 * y + j)) from fun R hR => by
          subst hR
          refine ⟨fun h i hi => ?_, fun h => ⟨(potN_set HP.out.1 hlt g4 (by omega) 24).2 hlt, nr_set HP.out.1 g4, pin_grow HP.out.1 HF.out hlt HP.out.2⟩⟩
          rcases Nat.lt_succ_iff_lt_or_eq.1 hi with h1 | rfl
          · exact HA.out i h1
          · exact h)
        have i0 := ix4_0 ((besN P k 0 : Nat) : Int) ((besN P k 1 : Nat) : Int) ((besN P k 2 : Nat) : Int) ((besN P k 3 : Nat) : Int)
        have i1 := ix4_1 ((besN P k 0 : Nat) : Int) ((besN P k 1 : Nat) : Int) ((besN P k 2 : Nat) : Int) ((besN P k 3 : Nat) : Int)
        have i2 := ix4_2 ((besN P k 0 : Nat) : Int) ((besN P k 1 : Nat) : Int) ((besN P k 2 : Nat) : Int) ((besN P k 3 : Nat) : Int)
        have i3 := ix4_3 ((besN P k 0 : Nat) : Int) ((besN P k 1 : Nat) : Int) ((besN P k 2 : Nat) : Int) ((besN P k 3 : Nat) : Int)
        rw [g0] at p2
        clear hc3 hpv HA g0 nf np hRw hle
        generalize besN P k 0 = B0 at *
        generalize besN P k 1 = B1 at *
        generalize besN P k 2 = B2 at *
        generalize besN P k 3 = B3 at *
        generalize B0 &&& NX F k = D0 at *
        generalize B1 &&& NX F k = D1 at *
        generalize B2 &&& NX F k = D2 at *
        generalize B3 &&& NX F k = D3 at *
        generalize grownN P F k 1 = R1 at *
        generalize grownN P F k 2 = R2 at *
        generalize grownN P F k 3 = R3 at *
        obtain ⟨R4, hR4⟩ : ∃ R, grownN P F k 4 = R := ⟨_, rfl⟩
        have HG := Lib.hid (HG4.out R4 hR4)
        rw [hR4] at r3 g4
        clear HG4 hR4
        have p0 : NX P k = grownN P F k 0 := rfl
        obtain ⟨R0, hR0⟩ : ∃ R, grownN P F k 0 = R := ⟨_, rfl⟩
        rw [p0, hR0] at HG
        rw [hR0] at p2 r0
        clear p0 hR0
        go_wp2_with fail
        refine CB.out.mono ?_
        rintro e w2 ⟨rfl, hb2⟩
        have HO2 := Lib.hid (HO.out.below hb2)
        have HB2 := Lib.hid (HB.out.trans (hb2.mono HB.out.size))
        have p3 := (hb2.cell (p := ⟨w.heap.size, k, none⟩) (HO.out.shape.elim (fun h => absurd h.1 (by simp)) (fun ⟨g, e, _, hl⟩ => by cases e; exact hl))).trans p2
        have fz := HO2.out.frozenAt k
        clear hb2 HO HB CB x2 p2
        go_wp2_with fail
        refine wp_loop_rounds 5 ?_
        rw [rounds_succ]
        go_wp2_with fail
        rw [rounds_succ]
        go_wp2_with fail
        rw [rounds_succ]
        go_wp2_with fail
        rw [rounds_succ]
        go_wp2_with fail
        rw [rounds_succ]
        by_cases hrr : R4 = R0
        · have er : ((R4 : Int) != (R0 : Int)) = false := by simp [hrr]
          have HA := Lib.hid (HG.out.1 hrr)
          clear HG hrr a0 a1 a2 a3 r0 r1 r2 r3 i0 i1 i2 i3
          go_wp2_with fail
          obtain ⟨g2, rfl⟩ : ∃ g, gk = g + 1 := ⟨gk - 1, by omega⟩
          go_roundg g2
          case measure => omega
          case rel => exact ⟨k + 1, by omega, by go_num, HA, HO2, HB2⟩
        · have er : ((R4 : Int) != (R0 : Int)) = true := by simp; omega
          obtain ⟨hpot, hnr, hpin⟩ := HG.out.2 hrr
          have HNP := Lib.hid (And.intro hnr hpin)
          have HO3 := HO2.out.stored k (.int .i64 (R4 : Int))
          have HB3 := Lib.hid (HB2.out.grown HO3.2 HB2.out.size (fun q hq => by cases hq; exact Nat.le_refl _))
          have HO4 := Lib.hid (show OwnI (w2.setCell ⟨w.heap.size, k, none⟩ (.int .i64 (R4 : Int))) w.heap.size (some ⟨w.heap.size, 0, none⟩) 24 24 (P.set k (R4 : Int)) by
            unfold OwnI
            rw [List.map_set]
            exact HO3.1)
          clear HG hrr a0 a1 a2 a3 r0 r1 r2 r3 i0 i1 i2 i3 HO3 hnr hpin
          go_wp2_with fail
          go_roundg (potN (P.set k (R4 : Int)) 24)
          case measure => exact hpot
          case rel => exact ⟨_, rfl, HO4, HNP, HB3⟩
      · have elk : decide ((k : Int) < 24) = false := decide_eq_false (by omega)
        have HD := Lib.hid (pin_done HP.out.1 HP.out.2 (fun i hi => HA.out i (by omega)))
        clear HA
        go_wp2_with fail
        try rw [Exit.noGoto_ret]
        go_ret
        exact ⟨P, _, j, rfl, HO.out, HP.out.1, HJ.out, HD.out, HB.out⟩
end Go.Proofs.Yteekleibddjblaa
