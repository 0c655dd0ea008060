/- Contracts: the program's regionWhere, at a test that answers for every cell. -/
import Derived.Test.YthapidnjioindaaC9A
import Derived.Test.YthapidnjioindaaBoxP
namespace Go.Proofs.Ythapidnjioindaa
open Go.RowKit

/-- An answer that is a region of these rows, in memory of its own. -/
def AnsR (W : World) (f : Nat → Nat) (e : Ending) (w' : World) : Prop := ∃ g : Nat, e = .returned (.agg #[.slice (some ⟨g, 0, none⟩) 24 24]) ∧ OwnI w' W.heap.size (some ⟨g, 0, none⟩) 24 24 (rowsOfR f) ∧ Below W.heap.size W w'
theorem wrap_pow {x : Nat} (h : 2 ^ x < 1048576) : wrap64 ((2 : Int) ^ x) = ((2 ^ x : Nat) : Int) := by
  have e : ((2 : Int) ^ x) = ((2 ^ x : Nat) : Int) := by simp
  rw [e]
  generalize 2 ^ x = m at h ⊢
  unfold wrap64
  omega
theorem rows24_int (p : Nat → Nat → Bool) (y x : Nat) : ((stR p y x).map (Value.int .i64)).length = 24 := by simp [stR_len]

set_option maxRecDepth 100000 in
set_option maxHeartbeats 4000000 in
theorem whereIn (p : Nat → Nat → Bool) (w : World) (HF : ∀ W, Below w.heap.size w W → ∀ x y : Nat, x < 20 → y < 24 → Calls Try.prog 38 #[.int .i64 (x : Int), .int .i64 (y : Int)] W fun e w' => e = .returned (.bool (p x y)) ∧ Below W.heap.size W w') :
    Calls Try.prog 37 #[.func (.func 38) #[] #[]] w (AnsR w (regN p)) := by
  obtain ⟨i0, hi, hz0, hz1, hz2⟩ := info_parts infoI
  have CF := Lib.hid HF
  have b0 := BoxF.new w [.slice none 0 0] 34
  have hb0 : Below w.heap.size w (w.alloc (.cells #[.slice none 0 0] 34 (0, 0))) := (Below.refl _ w).alloc (Nat.le_refl _) _
  have HB0 := Lib.hid hb0
  have X0 := Lib.hid b0
  clear HF b0 hb0
  go_enter Try.func37, Try.ntmps37
  go_wp2_with (at_make; refine wpList_make_full _ rfl _ _ 28 rfl (w.heap.size + 1) 3 i0 (.int .i64 0) 1 Try.underlying28 hi hz0 hz1 .i64 .i64 24 24 24 rfl rfl rfl rfl (by rw [hz2]; omega) (by unfold maxLen; omega) (by simp) ?_; intro w1 hown1 hgr1)
  have hfil : OwnI w1 (w.heap.size + 1) (some ⟨w.heap.size + 1, 0, none⟩) 24 24 (stR p 0 0) := by
    unfold OwnI
    rw [stR_start, List.map_replicate, ← toList_madeCells_one]
    rw [Nat.mul_one] at hown1
    simp only [World.size_alloc] at hown1
    exact hown1
  have X1 := Lib.hid (X0.out.kept hgr1 (by simp))
  have HB1 := Lib.hid (HB0.out.grown hgr1 (by simp) (by simp))
  have HO1 := Lib.hid hfil
  clear hown1 hgr1 X0 HB0 hfil
  go_wp2_with fail
  go_loopw [9] (fun i wr => ∃ y : Nat, y ≤ 24 ∧ i = .int .i64 (y : Int) ∧ Hid (OwnI wr (w.heap.size + 1) (some ⟨w.heap.size + 1, 0, none⟩) 24 24 (stR p y 0)) ∧ Hid (BoxF wr w.heap.size [.slice none 0 0] 34) ∧ Hid (Below w.heap.size w wr)) (fun i _ => 24 - (intOf i).toNat)
  case atStart => exact ⟨0, by omega, rfl, HO1, X1, HB1⟩
  case round =>
    obtain ⟨y, hy, rfl, HO, HX, HB⟩ := hrel
    clear HO1 X1 HB1
    by_cases hlt : y < 24
    · have ely : decide ((y : Int) < 24) = true := decide_eq_true (by omega)
      go_wp2_with fail
      go_loopw [12] (fun i wr => ∃ x : Nat, x ≤ 20 ∧ i = .int .i64 (x : Int) ∧ Hid (OwnI wr (w.heap.size + 1) (some ⟨w.heap.size + 1, 0, none⟩) 24 24 (stR p y x)) ∧ Hid (BoxF wr w.heap.size [.slice none 0 0] 34) ∧ Hid (Below w.heap.size w wr)) (fun i _ => 20 - (intOf i).toNat)
      case atStart => exact ⟨0, by omega, rfl, HO, HX, HB⟩
      case round =>
        obtain ⟨x, hx, rfl, HO, HX, HB⟩ := hrel
        by_cases hlx : x < 20
        · have elx : decide ((x : Int) < 20) = true := decide_eq_true (by omega)
          go_wp2_with fail
          refine (inShield_impl _ _ _).mono ?_
          rintro e w2 ⟨rfl, rfl⟩
          rw [shZ_nat hlx hlt]
          have hs := stR_skip p (y := y) (x := x)
          have hset := stR_set p (x := x) hlt
          cases h1 : shB x y
          · have hs := Lib.hid (hs (by rw [h1]; rfl))
            clear hset
            go_wp2_with fail
            go_roundw
            case rel => exact ⟨x + 1, by omega, by go_num, by rw [hs.out]; exact HO, HX, HB⟩
            case measure => simp [intOf]; omega
          · go_wp2_with fail
            refine (CF.out _ HB.out x y hlx hlt).mono ?_
            rintro e w2 ⟨rfl, hb2⟩
            have HO2 := Lib.hid (HO.out.below hb2)
            have HX2 := Lib.hid (HX.out.below hb2)
            have HB2 := Lib.hid (HB.out.trans (hb2.mono HB.out.size))
            clear hb2 HO HX HB
            cases h2 : p x y
            · have hs := Lib.hid (hs (by rw [h2]; simp))
              clear hset
              go_wp2_with fail
              go_roundw
              case rel => exact ⟨x + 1, by omega, by go_num, by rw [hs.out]; exact HO2, HX2, HB2⟩
              case measure => simp [intOf]; omega
            · obtain ⟨N, hN⟩ : ∃ N, rowN (fun i => shB i y && p i y) x = N := ⟨_, rfl⟩
              have hat := stR_at p x hlt
              have hlN := rowN_ltk (fun i => shB i y && p i y) hx
              have hor := rowN_or (fun i => shB i y && p i y) x
              rw [hN] at hset hat hlN hor
              have hp2 : 2 ^ x < 1048576 := by
                have := Nat.pow_lt_pow_right (a := 2) (by decide) hlx
                omega
              have hor := i64_or_nat N (2 ^ x) (by omega) (by omega) |>.trans (congrArg _ hor)
              have hc1 := (HO2.out.cellAt y hlt)
              rw [List.getElem?_map, hat] at hc1
              simp only [Option.map_some] at hc1
              have hf1 := HO2.out.frozenAt y
              clear hs hat hN
              have HF1 := Lib.hid hf1
              have HOR := Lib.hid hor
              have HSET := Lib.hid (hset (by rw [h1, h2]; rfl))
              clear hlN hor hset hf1
              go_wp2_with fail
              have hf1 := HF1.out
              have hor := HOR.out
              go_region
              rw [wrap_pow hp2, hor]
              have HO3 := HO2.out.stored y (.int .i64 (((N + 2 ^ x : Nat)) : Int))
              have HX3 := Lib.hid (HX2.out.kept HO3.2 (by simp))
              have HB3 := Lib.hid (HB2.out.grown HO3.2 HB2.out.size (fun q hq => by cases hq; omega))
              have HO4 := Lib.hid (show OwnI (w2.setCell ⟨w.heap.size + 1, y, none⟩ (.int .i64 (((N + 2 ^ x : Nat)) : Int))) (w.heap.size + 1) (some ⟨w.heap.size + 1, 0, none⟩) 24 24 (stR p y (x + 1)) by
                rw [← HSET.out]
                unfold OwnI
                rw [List.map_set]
                exact HO3.1)
              clear HO3 HX2 HB2 HO2 hor hf1 HF1 HOR hc1 HSET
              have HO5 := Lib.hid (HO4.out.drewN 1)
              have HX5 := Lib.hid (HX3.out.drew 1)
              have HB5 := Lib.hid (below_drewN' HB3.out 1)
              clear HO4 HX3 HB3
              go_wp2_with fail
              go_roundw
              case rel => exact ⟨x + 1, by omega, by go_num, HO5, HX5, HB5⟩
              case measure => simp [intOf]; omega
        · have elx : decide ((x : Int) < 20) = false := decide_eq_false (by omega)
          obtain rfl : x = 20 := by omega
          rw [stR_next] at HO
          go_wp2_with fail
          go_roundw
          case rel => exact ⟨y + 1, by omega, by go_num, HO, HX, HB⟩
          case measure => simp [intOf]; omega
    · have ely : decide ((y : Int) < 24) = false := decide_eq_false (by omega)
      obtain rfl : y = 24 := by omega
      rw [stR_all] at HO
      obtain ⟨c0, f0⟩ := HX.out.one
      have hf0 := f0 0
      have X9 := HX.out.set 0 (.slice (some ⟨w.heap.size + 1, 0, none⟩) 24 24)
      obtain ⟨z0, _⟩ := X9.one
      have HG := grownBy_set wr w.heap.size 0 (.slice (some ⟨w.heap.size + 1, 0, none⟩) 24 24)
      have HO9 := Lib.hid ((HO.out.low (B' := w.heap.size) (by omega)).kept HG (by right; simp [Value.ownBlock]))
      have HB9 := Lib.hid (HB.out.grown HG HB.out.size (fun q hq => by cases hq; exact Nat.le_refl _))
      clear X9 HG HO HX HB f0
      go_wp2_with fail
      exact bodyPost_ret (v := .agg #[.slice (some ⟨w.heap.size + 1, 0, none⟩) 24 24]) (by simp [results, Try.results37, go_sem, z0]) rfl ⟨_, rfl, HO9.out, HB9.out⟩


end Go.Proofs.Ythapidnjioindaa
