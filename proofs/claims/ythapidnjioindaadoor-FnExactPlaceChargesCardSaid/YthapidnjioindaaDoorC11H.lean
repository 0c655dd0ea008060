/- Contract: FillRegion of the program. -/
import Derived.Test.YthapidnjioindaaDoorC11G
import Derived.Test.YthapidnjioindaaDoorKIF
import Derived.Test.YthapidnjioindaaDoorKIE
import Derived.Deep.DeepCutAuto
import Derived.Deep.RegionHeld3
namespace Go.Proofs.YthapidnjioindaaDoor
open Go.RowKit

theorem AtRow.ok {V : Nat → Nat} {n m y : Nat} {s : (Nat → Nat) × List Bx} (hV : GoodF V) (hn : n ≤ 8) (hy : y + n ≤ 24) (h : AtRow n m y (allS n m V y) s) : OkS V n m s := by
  obtain ⟨k, hk, rfl, _⟩ := h
  exact rowS_ok hn hy (allS_ok hn hV y (by omega)) k hk
theorem OwnBx.kept {w w' : World} {B : Nat} {v : Value} {X : List Bx} {row : Option Nat} (h : OwnBx w B v X) (hg : w.grownBy w' row) (hne : v.ownBlock = none ∨ v.ownBlock ≠ row) : OwnBx w' B v X := World.ownsRow.kept h hg hne
theorem far_row {w : World} {g : Nat} {v : Value} {X : List Bx} (h : OwnBx w (g + 1) v X) : v.ownBlock = none ∨ v.ownBlock ≠ some g := by
  cases hq : v.ownBlock with
  | none => exact .inl rfl
  | some q => refine .inr (fun e => ?_); cases e; have := (World.ownsRow.lt h g hq).1; omega
theorem ownI_cap {w : World} {B n cap : Nat} {a : Option Addr} {X : List Int} (h : OwnI w B a n cap X) : n ≤ cap := by
  rcases h.2 with ⟨h1, _⟩ | ⟨g', cap', cur, h1, _, _, hle, _⟩
  · simp only [Value.slice.injEq] at h1; omega
  · simp only [Value.slice.injEq] at h1; omega
set_option maxRecDepth 100000 in
set_option maxHeartbeats 8000000 in
theorem fill_impl (V : Nat → Nat) (n m : Nat) (a : Option Addr) (c : Nat) (w : World) (h : RdI w a 24 (rowsOfR V)) (hV : GoodF V) (hn1 : 1 ≤ n) (hn8 : n ≤ 8) (hm : m ≤ 40) (hT : TzT w) :
    Calls Tryd.prog 12 #[.agg #[.slice a 24 c], .int .i64 (n : Int), .int .i64 (m : Int)] w (AnsBx w (fillL V n m) true) := by
  obtain ⟨i0, hi, hz0, hz1, hz2⟩ := info_parts infoBx
  have hg := good_rows V hV
  have XA := BoxF.new w [.slice a 24 c] 26
  have hb := (Below.refl _ w).alloc (Nat.le_refl _) (.cells #[.slice a 24 c] 26 (0, 0))
  have c1 := XA.one.1
  have CV0 := fun W (h : RdI W a 24 (rowsOfR V)) => valid_impl (rowsOfR V) 24 a c W h (good_wf hg) (by omega)
  rw [hg] at CV0
  have CV := Lib.hid CV0
  have CS := Lib.hid (fun W => boxSize_any (n : Int) W true (decide_eq_true (by omega)))
  have CC := Lib.hid (fun W (h : RdI W a 24 (rowsOfR V)) => clone24 (rowsOfR V) (rowsOfR_len V) a c W h)
  have HX := Lib.hid XA
  have HB := Lib.hid hb
  have HR := Lib.hid h
  have HV := Lib.hid hV
  have HT := Lib.hid hT
  clear h XA hb hT hV hg CV0
  have em0 : decide ((m : Int) < 0) = false := decide_eq_false (by omega)
  have em1 : decide ((40 : Int) < (m : Int)) = false := decide_eq_false (by omega)
  have ew0 : wrap64 (24 - (n : Int)) = 24 - (n : Int) := by unfold wrap64; omega
  have ew1 : wrap64 (24 - (n : Int) + 1) = 24 - (n : Int) + 1 := by unfold wrap64; omega
  go_enter Tryd.func12, Tryd.ntmps12
  go_wp2_with fail
  refine (CV.out _ (HR.out.below HB.out)).mono ?_
  rintro e w1 ⟨rfl, hb1⟩
  have HX1 := Lib.hid (HX.out.below hb1)
  have HB1 := Lib.hid (HB.out.trans (hb1.mono HB.out.size))
  clear hb1 HX HB c1 CV
  go_wp2_with fail
  refine (CS.out _).mono ?_
  rintro e w' ⟨rfl, rfl⟩
  have c1 := HX1.out.one.1
  go_wp2_with fail
  refine (CC.out _ (HR.out.below HB1.out)).mono ?_
  rintro e w2 ⟨g, cap, rfl, ho, hb2⟩
  have hgw := (World.ownsRow.lt ho g rfl).1
  have HB2 := Lib.hid (HB1.out.trans (hb2.mono HB1.out.size))
  have hgB : w.heap.size ≤ g := Nat.le_trans HB1.out.size hgw
  have hcap := ownI_cap ho
  have HO2 := Lib.hid (OwnI.low ho HB1.out.size)
  have hgB := Lib.hid hgB
  clear hb2 ho c1 HX1 HB1 CC CS em0 em1 hgw
  go_wp2_with fail
  clear ew0 ew1
  go_loopw [8, 37] (fun v i wr => ∃ y : Nat, y + n ≤ 25 ∧ i = .int .i64 (y : Int) ∧ Hid (OwnBx wr (g + 1) v (allS n m V y).2) ∧ Hid (OwnI wr w.heap.size (some ⟨g, 0, none⟩) 24 cap (rowsOfR (allS n m V y).1)) ∧ Hid (Below w.heap.size w wr)) (fun _ i _ => 25 - (intOf i).toNat)
  case atStart => exact ⟨0, by omega, rfl, Lib.hid (ownBx_nil _ _), HO2, HB2⟩
  case round =>
    clear HO2 HB2
    obtain ⟨y, hy, rfl, HL, HO, HB⟩ := hrel
    by_cases hlt : y + n ≤ 24
    · have ely : decide ((y : Int) < 24 - (n : Int) + 1) = true := decide_eq_true (by omega)
      have ecy : cap ≠ y := by omega
      go_wp2_with fail
      try rw [Nat.add_sub_cancel_left]
      have HS0 := Lib.hid (AtRow.start n m y (allS n m V y) hn8)
      obtain ⟨s0, hs0⟩ : ∃ s, allS n m V y = s := ⟨_, rfl⟩
      have HEQ := Lib.hid hs0
      have HOK := Lib.hid (fun s (h : AtRow n m y s0 s) => AtRow.ok HV.out hn8 hlt (show AtRow n m y (allS n m V y) s by rw [hs0]; exact h))
      rw [hs0] at HL HO HS0
      have hle0 := (HOK.out s0 HS0.out).2.1
      clear hs0
      go_loopg [8] (m - s0.2.length) (fun gh v wr => ∃ s : (Nat → Nat) × List Bx, s.2.length + gh = m ∧ Hid (AtRow n m y s0 s) ∧ Hid (OwnBx wr (g + 1) v s.2) ∧ Hid (OwnI wr w.heap.size (some ⟨g, 0, none⟩) 24 cap (rowsOfR s.1)) ∧ Hid (Below w.heap.size w wr))
      case atStart => exact ⟨s0, by omega, HS0, HL, HO, HB⟩
      case round =>
        clear HS0 HL HO HB hle0
        obtain ⟨s, hgh, HS, HL, HO, HB⟩ := hrel
        obtain ⟨hGF, hlen, _, _⟩ := HOK.out s HS.out
        obtain ⟨av, cv, rfl⟩ := HL.out.slice
        by_cases hlm : s.2.length < m
        · obtain ⟨gh, rfl⟩ : ∃ gh, gk = gh + 1 := ⟨gk - 1, by omega⟩
          have elm : decide ((s.2.length : Int) < (m : Int)) = true := decide_eq_true (by omega)
          have CO := Lib.hid (cols_any s.1 g y n (cap - y) y wr (fun j hj => by
            have := HO.out.cellAt (y + j) (by omega)
            rw [List.getElem?_map, rowsOfR_at _ (by omega)] at this
            simpa using this) (fun j hj => (hGF _ (by omega)).1) hn1 hn8 (by omega))
          have hCl := colsN_lt (F := s.1) (y := y) (hGF y (by omega)).1 n
          have HGF := Lib.hid hGF
          obtain ⟨C, hC⟩ : ∃ C, colsN s.1 y n = C := ⟨_, rfl⟩
          rw [hC] at CO hCl
          by_cases h0 : C = 0
          · have HE := Lib.hid (HS.out.none hn1 (by rw [hC, h0]))
            subst h0
            clear hC hGF
            go_wp2_with fail
            refine CO.out.mono ?_
            rintro e w3 ⟨rfl, rfl⟩
            clear CO
            go_wp2_with fail
            go_roundw
            case rel => exact ⟨y + 1, by omega, by go_num, Lib.hid (by show OwnBx _ _ _ (rowS n m y (21 - n) (allS n m V y)).2; rw [HEQ.out, ← HE.out]; exact HL.out), Lib.hid (by show OwnI _ _ _ _ _ (rowsOfR (rowS n m y (21 - n) (allS n m V y)).1); rw [HEQ.out, ← HE.out]; exact HO.out), HB⟩
            case measure => simp [intOf]; omega
          · have hC0 : ((C : Int) == 0) = false := cast_ne h0
            obtain ⟨hb0, hbm⟩ := ctz_bits h0 hCl
            rw [← hC] at hb0 hbm
            rw [hC] at hb0 hbm
            have HST := Lib.hid (HS.out.step hn1 hn8 hlt hGF hlm (by rw [hC]; exact hb0) (by rw [hC]; exact hbm))
            have CT := Lib.hid (Tryd.bits_TrailingZeros C (by omega) wr (fun _ => HT.out.below HB.out))
            clear hb0 hbm hC hGF
            generalize Lib.ctz 64 C = x at *
            have hxn := HST.out.1
            obtain ⟨L, hL⟩ : ∃ L, s.2 = L := ⟨_, rfl⟩
            have HLL := Lib.hid hL
            rw [hL] at HL hlm hlen hgh elm
            rw [hL]
            have hgq := (World.ownsRow.lt HO.out g rfl).2
            have HW4 := Lib.hid (OwnBx.below HL.out ((Below.refl _ wr).alloc (Nat.le_refl _) (.cells #[.int .i64 (x : Int), .int .i64 (y : Int), .int .i64 (n : Int)] 36 (0, 0))))
            go_wp2_with fail
            refine CO.out.mono ?_
            rintro e w3 ⟨rfl, rfl⟩
            go_wp2_with fail
            refine CT.out.mono ?_
            rintro e w3 ⟨rfl, rfl⟩
            clear CO CT
            go_wp2_with (at_builtin; refine wpList_append_own _ rfl _ _ 29 rfl (g + 1) 36 i0 _ 3 24 Tryd.underlying29 hi hz0 hz1 hz2 rfl (by decide) _ _ _ rfl (World.ownsRow.alloc HW4.out _) ⟨w3.heap.size + 1, 0, none⟩ 1 1 [.int .i64 (x : Int), .int .i64 (y : Int), .int .i64 (n : Int)] rfl rfl (by have h_ := cell_newB (w3.alloc (.cells #[.int .i64 (x : Int), .int .i64 (y : Int), .int .i64 (n : Int)] 36 (0, 0))) [.int .i64 (x : Int), .int .i64 (y : Int), .int .i64 (n : Int)] 36; rw [World.size_alloc] at h_; exact h_) (by simp [Value.oneCell']) (by unfold maxLen; omega) (by omega) (by simp; omega) ?_; intro v5 w5 hown5 hgrow5 hnil5)
            have hgq3 := hgq
            have BA := ((Below.refl w3.heap.size w3).alloc (Nat.le_refl _) (.cells #[.int .i64 (x : Int), .int .i64 (y : Int), .int .i64 (n : Int)] 36 (0, 0))).alloc (by simp) (.cells #[.int .i64 (x : Int), .int .i64 (y : Int), .int .i64 (n : Int)] 36 (0, 0))
            have hgr5 : ((w3.alloc (.cells #[.int .i64 (x : Int), .int .i64 (y : Int), .int .i64 (n : Int)] 36 (0, 0))).alloc (.cells #[.int .i64 (x : Int), .int .i64 (y : Int), .int .i64 (n : Int)] 36 (0, 0))).grownBy w5 (Value.slice av L.length cv).ownBlock := hgrow5
            have HV5 := Lib.hid (show OwnBx w5 (g + 1) v5 (L ++ [(Bx.mk (x : Int) (y : Int) (n : Int))]) from app_bx (F := (Bx.mk (x : Int) (y : Int) (n : Int))) hown5 rfl rfl)
            have HO5 := Lib.hid (OwnI.kept (HO.out.below BA) hgr5 (.inr (fun e => by
              rcases far_row HL.out with h | h
              · rw [h] at e; cases e
              · exact h e.symm)))
            have HQ5 := Lib.hid (((BoxF.new w3 [.int .i64 (x : Int), .int .i64 (y : Int), .int .i64 (n : Int)] 36).alloc (.cells #[.int .i64 (x : Int), .int .i64 (y : Int), .int .i64 (n : Int)] 36 (0, 0))).kept hgr5 (by intro e; have := (World.ownsRow.lt HL.out _ e.symm).2; omega))
            have HB5 := Lib.hid ((HB.out.trans (BA.mono HB.out.size)).grown hgr5 (by have := HB.out.size; simp; omega) (fun p hp => by have h1 := (World.ownsRow.lt HL.out p hp).1; have h2 := hgB.out; omega))
            clear BA hown5 hgrow5 hgr5 hnil5 HW4 HL HO HB
            have hqg : g < w3.heap.size := hgq
            clear hgq hgq3
            obtain ⟨q, hq⟩ : ∃ q, w3.heap.size = q := ⟨_, rfl⟩
            rw [hq] at HQ5 hqg ⊢
            clear hq
            have CM := Lib.hid (fun W => rowMask_any x n (y : Int) W hn1 hn8 hxn)
            clear elm
            go_wp2_with fail
            go_loopw [67] (fun i wz => ∃ k : Nat, k ≤ n ∧ i = .int .i64 (k : Int) ∧ Hid (OwnI wz w.heap.size (some ⟨g, 0, none⟩) 24 cap (rowsOfR (clearF s.1 (maskN n x) y k))) ∧ Hid (OwnBx wz (g + 1) v5 (L ++ [(Bx.mk (x : Int) (y : Int) (n : Int))])) ∧ Hid (BoxF wz q [.int .i64 (x : Int), .int .i64 (y : Int), .int .i64 (n : Int)] 36) ∧ Hid (Below w.heap.size w wz)) (fun i _ => n - (intOf i).toNat)
            case atStart => exact ⟨0, by omega, rfl, by rw [clearF_zero]; exact HO5, HV5, HQ5, HB5⟩
            case round =>
              clear HO5 HV5 HQ5 HB5
              obtain ⟨k, hk, rfl, HO3, HV, HQ, HB3⟩ := hrel
              by_cases hlk : k < n
              · have elk : decide ((k : Int) < (n : Int)) = true := decide_eq_true (by omega)
                obtain ⟨M, hM⟩ : ∃ M, lessN (s.1 (y + k)) (maskN n x) = M := ⟨_, rfl⟩
                have HN := Lib.hid (show (rowsOfR (clearF s.1 (maskN n x) y (k + 1))).map (Value.int .i64) = ((rowsOfR (clearF s.1 (maskN n x) y k)).map (Value.int .i64)).set (y + k) (.int .i64 ((M : Nat) : Int)) by rw [← clearF_set s.1 (maskN n x) y (by omega), List.map_set, hM])
                have HC2 := Lib.hid (show ((rowsOfR (clearF s.1 (maskN n x) y k)).map (Value.int .i64))[y + k]? = some (.int .i64 ((s.1 (y + k) : Nat) : Int)) by rw [List.getElem?_map, rowsOfR_at _ (by omega), clearF_at]; rfl)
                have han := i64_andNot_nat (s.1 (y + k)) (maskN n x) (by have := (HGF.out (y + k) (by omega)).1; omega) (maskN_lt hn8 (by omega))
                rw [hM] at han
                clear hM
                generalize s.1 (y + k) = N at HC2 han
                generalize maskN n x = MK at *
                go_wp2_with fail
                go_upto_region 17 with fail
                refine wp_region_noPanic ?_
                refine wp_region_held_drew (S := fun W => BoxF W q [.int .i64 (x : Int), .int .i64 (y : Int), .int .i64 (n : Int)] 36 ∧ OwnBx W (g + 1) v5 (L ++ [(Bx.mk (x : Int) (y : Int) (n : Int))]) ∧ Below w.heap.size w W ∧ (OwnI W w.heap.size (some ⟨g, 0, none⟩) 24 cap (rowsOfR (clearF s.1 MK y k)) ∨ OwnI W w.heap.size (some ⟨g, 0, none⟩) 24 cap (rowsOfR (clearF s.1 MK y (k + 1))))) (by kernel_rfl) ⟨HQ.out, HV.out, below_drewN' HB3.out 1, .inl HO3.out⟩ (fun hHeld => ?_)
                have ho_ : OwnI wr.drew w.heap.size (some ⟨g, 0, none⟩) 24 cap (rowsOfR (clearF s.1 MK y k)) := HO3.out.drewN 1
                have gB_ : BoxF wr.drew q [.int .i64 (x : Int), .int .i64 (y : Int), .int .i64 (n : Int)] 36 := HQ.out
                have gV_ : OwnBx wr.drew (g + 1) v5 (L ++ [(Bx.mk (x : Int) (y : Int) (n : Int))]) := HV.out
                have gW_ := below_drewN' HB3.out 1
                change Below w.heap.size w wr.drew at gW_
                clear HO3 HQ HV HB3
                generalize wr.drew = Wd at *
                refine wpAnyH_take (i := 0) (oi := { dst := some 70, op := _, type := _, pos := _, after := _, guard := _ }) (v := .slice (some ⟨g, y, none⟩) n (cap - y)) rfl (by kernel_rfl) (by kernel_rfl) (by kernel_rfl) (fun _ _ _ h => h) (Or.inl ⟨by rfl, ?_⟩) hHeld ?_
                · (intro w_ hSw; clear hSw; go_simp; first | done | with_reducible rfl | rfl | (intro h_; omega) | (simp only [IntKind.wrap, IntKind.bits, IntKind.signed]; omega) | (simp [IntKind.wrap, IntKind.bits, IntKind.signed]; omega))
                set_option linter.unusedSimpArgs false in try simp only [Act.put, List.setIfInBounds_toArray, List.set_cons_zero, List.set_cons_succ]
                refine wpAnyH_take (i := 1) (oi := { dst := some 71, op := _, type := _, pos := _, after := _, guard := _ }) (v := .int .i64 (k : Int)) rfl (by kernel_rfl) (by kernel_rfl) (by kernel_rfl) (fun _ _ _ h => h) (Or.inl ⟨by rfl, ?_⟩) hHeld ?_
                · (intro w_ hSw; clear hSw; go_simp; first | done | with_reducible rfl | rfl | (intro h_; omega) | (simp only [IntKind.wrap, IntKind.bits, IntKind.signed]; omega) | (simp [IntKind.wrap, IntKind.bits, IntKind.signed]; omega))
                set_option linter.unusedSimpArgs false in try simp only [Act.put, List.setIfInBounds_toArray, List.set_cons_zero, List.set_cons_succ]
                refine wpAnyH_take (i := 2) (oi := { dst := some 72, op := _, type := _, pos := _, after := _, guard := _ }) (v := .pointer (some ⟨g, y + k, none⟩)) rfl (by kernel_rfl) (by kernel_rfl) (by kernel_rfl) (fun _ _ _ h => h) (Or.inl ⟨by rfl, ?_⟩) hHeld ?_
                · (intro w_ hSw; clear hSw; go_simp; first | done | with_reducible rfl | rfl | (intro h_; omega) | (simp only [IntKind.wrap, IntKind.bits, IntKind.signed]; omega) | (simp [IntKind.wrap, IntKind.bits, IntKind.signed]; omega))
                set_option linter.unusedSimpArgs false in try simp only [Act.put, List.setIfInBounds_toArray, List.set_cons_zero, List.set_cons_succ]
                refine wpAnyH_take (i := 4) (oi := { dst := some 74, op := _, type := _, pos := _, after := _, guard := _ }) (v := .agg #[.int .i64 (x : Int), .int .i64 (y : Int), .int .i64 (n : Int)]) rfl (by kernel_rfl) (by kernel_rfl) (by kernel_rfl) (fun _ _ _ h => h) (Or.inl ⟨by rfl, ?_⟩) hHeld ?_
                · (intro w_ hSw; have c0_ := hSw.1.at 0; have c1_ := hSw.1.at 1; have c2_ := hSw.1.at 2; set_option linter.unusedSimpArgs false in simp only [List.getElem?_cons_zero, List.getElem?_cons_succ] at c0_ c1_ c2_; clear hSw; go_simp; first | done | with_reducible rfl | rfl | (intro h_; omega) | (simp only [IntKind.wrap, IntKind.bits, IntKind.signed]; omega) | (simp [IntKind.wrap, IntKind.bits, IntKind.signed]; omega))
                set_option linter.unusedSimpArgs false in try simp only [Act.put, List.setIfInBounds_toArray, List.set_cons_zero, List.set_cons_succ]
                refine wpAnyH_ready (rs := [3, 5]) (by kernel_rfl) (by simp) ?_
                refine AllReadyH.cons rfl (fun K hK => ?_) ?_
                · have c_ := ho_.cellAt (y + k) (by omega)
                  rw [HC2.out] at c_
                  try rw [if_pos (by rfl)]
                  go_simp
                  clear c_
                  refine hK.out _ _ (⟨gB_, gV_, gW_, .inl ho_⟩) (fun hHeld => ?_)
                  clear hK K
                  set_option linter.unusedSimpArgs false in try simp only [Act.put, List.setIfInBounds_toArray, List.set_cons_zero, List.set_cons_succ]
                  refine wpAnyH_ready (rs := [5]) (by kernel_rfl) (by simp) ?_
                  refine AllReadyH.cons rfl (fun K hK => ?_) ?_
                  rotate_left
                  · exact AllReadyH.nil
                  try rw [if_pos (by rfl)]
                  go_simp
                  refine (CM.out _).mono ?_
                  rintro e w4 ⟨rfl, hb4⟩
                  have ho4 := ho_.below hb4
                  have gB4 := gB_.below hb4
                  have gV4 := gV_.below hb4
                  have gW4 := gW_.trans (hb4.mono gW_.size)
                  clear hb4
                  go_wp2_with fail
                  refine hK.out _ _ (⟨gB4, gV4, gW4, .inl ho4⟩) (fun hHeld => ?_)
                  clear hK K
                  set_option linter.unusedSimpArgs false in try simp only [Act.put, List.setIfInBounds_toArray, List.set_cons_zero, List.set_cons_succ]
                  refine wpAnyH_take (i := 6) (oi := { dst := some 76, op := _, type := _, pos := _, after := _, guard := _ }) (v := .int .i64 ((M : Nat) : Int)) rfl (by kernel_rfl) (by kernel_rfl) (by kernel_rfl) (fun _ _ _ h => h) (Or.inl ⟨by rfl, ?_⟩) hHeld ?_
                  · (intro w_ hSw; clear hSw; go_simp; first | done | with_reducible rfl | rfl | (intro h_; omega) | (simp only [IntKind.wrap, IntKind.bits, IntKind.signed]; omega) | (simp [IntKind.wrap, IntKind.bits, IntKind.signed]; omega))
                  set_option linter.unusedSimpArgs false in try simp only [Act.put, List.setIfInBounds_toArray, List.set_cons_zero, List.set_cons_succ]
                  refine wpAnyH_take (i := 7) (oi := { dst := some 77, op := _, type := _, pos := _, after := _, guard := _ }) (v := .pointer (some ⟨g, y + k, none⟩)) rfl (by kernel_rfl) (by kernel_rfl) (by kernel_rfl) (fun _ _ _ h => h) (Or.inl ⟨by rfl, ?_⟩) hHeld ?_
                  · (intro w_ hSw; clear hSw; go_simp; first | done | with_reducible rfl | rfl | (intro h_; omega) | (simp only [IntKind.wrap, IntKind.bits, IntKind.signed]; omega) | (simp [IntKind.wrap, IntKind.bits, IntKind.signed]; omega))
                  set_option linter.unusedSimpArgs false in try simp only [Act.put, List.setIfInBounds_toArray, List.set_cons_zero, List.set_cons_succ]
                  refine wpAnyH_ready (rs := [8]) (by kernel_rfl) (by simp) ?_
                  refine AllReadyH.cons rfl (fun K hK => ?_) ?_
                  rotate_left
                  · exact AllReadyH.nil
                  have f_ := ho4.frozenAt (y + k)
                  have c_ := ho4.cellAt (y + k) (by omega)
                  rw [HC2.out] at c_
                  have st_ := ho4.stored (y + k) (.int .i64 ((M : Nat) : Int))
                  have HST := Lib.hid st_
                  clear st_
                  try rw [if_pos (by rfl)]
                  go_simp
                  have go_ : OwnI (w4.setCell ⟨g, y + k, none⟩ (.int .i64 ((M : Nat) : Int))) w.heap.size (some ⟨g, 0, none⟩) 24 cap (rowsOfR (clearF s.1 MK y (k + 1))) := by
                    unfold OwnI
                    rw [HN.out]
                    exact HST.out.1
                  have g9 : BoxF (w4.setCell ⟨g, y + k, none⟩ (.int .i64 ((M : Nat) : Int))) q [.int .i64 (x : Int), .int .i64 (y : Int), .int .i64 (n : Int)] 36 ∧ OwnBx (w4.setCell ⟨g, y + k, none⟩ (.int .i64 ((M : Nat) : Int))) (g + 1) v5 (L ++ [(Bx.mk (x : Int) (y : Int) (n : Int))]) ∧ Below w.heap.size w (w4.setCell ⟨g, y + k, none⟩ (.int .i64 ((M : Nat) : Int))) ∧ (OwnI (w4.setCell ⟨g, y + k, none⟩ (.int .i64 ((M : Nat) : Int))) w.heap.size (some ⟨g, 0, none⟩) 24 cap (rowsOfR (clearF s.1 MK y k)) ∨ OwnI (w4.setCell ⟨g, y + k, none⟩ (.int .i64 ((M : Nat) : Int))) w.heap.size (some ⟨g, 0, none⟩) 24 cap (rowsOfR (clearF s.1 MK y (k + 1)))) := ⟨gB4.kept HST.out.2 (by intro e; cases e; omega), gV4.kept HST.out.2 (far_row gV4), gW4.grown HST.out.2 gW4.size (fun p hp => by cases hp; exact hgB.out), .inr go_⟩
                  clear f_ c_
                  refine hK.out _ _ (g9) (fun hHeld => ?_)
                  clear hK K
                  set_option linter.unusedSimpArgs false in try simp only [Act.put, List.setIfInBounds_toArray, List.set_cons_zero, List.set_cons_succ]
                  refine wpAnyH_done (by kernel_rfl) ?_ _
                  refine NoPanic.normal ?_
                  have HO6 := Lib.hid go_
                  have HV6 := Lib.hid g9.2.1
                  have HQ6 := Lib.hid g9.1
                  have HB6 := Lib.hid g9.2.2.1
                  clear hHeld g9 go_ HST ho4 gB4 gV4 gW4
                  go_wp2_with fail
                  go_roundw
                  case rel => exact ⟨k + 1, by omega, by go_num, HO6, HV6, HQ6, HB6⟩
                  case measure => simp [intOf]; omega
                refine AllReadyH.cons rfl (fun K hK => ?_) ?_
                · try rw [if_pos (by rfl)]
                  go_simp
                  refine (CM.out _).mono ?_
                  rintro e w4 ⟨rfl, hb4⟩
                  have ho4 := ho_.below hb4
                  have gB4 := gB_.below hb4
                  have gV4 := gV_.below hb4
                  have gW4 := gW_.trans (hb4.mono gW_.size)
                  clear hb4
                  go_wp2_with fail
                  refine hK.out _ _ (⟨gB4, gV4, gW4, .inl ho4⟩) (fun hHeld => ?_)
                  clear hK K
                  set_option linter.unusedSimpArgs false in try simp only [Act.put, List.setIfInBounds_toArray, List.set_cons_zero, List.set_cons_succ]
                  refine wpAnyH_ready (rs := [3]) (by kernel_rfl) (by simp) ?_
                  refine AllReadyH.cons rfl (fun K hK => ?_) ?_
                  rotate_left
                  · exact AllReadyH.nil
                  have c_ := ho4.cellAt (y + k) (by omega)
                  rw [HC2.out] at c_
                  try rw [if_pos (by rfl)]
                  go_simp
                  clear c_
                  refine hK.out _ _ (⟨gB4, gV4, gW4, .inl ho4⟩) (fun hHeld => ?_)
                  clear hK K
                  set_option linter.unusedSimpArgs false in try simp only [Act.put, List.setIfInBounds_toArray, List.set_cons_zero, List.set_cons_succ]
                  refine wpAnyH_take (i := 6) (oi := { dst := some 76, op := _, type := _, pos := _, after := _, guard := _ }) (v := .int .i64 ((M : Nat) : Int)) rfl (by kernel_rfl) (by kernel_rfl) (by kernel_rfl) (fun _ _ _ h => h) (Or.inl ⟨by rfl, ?_⟩) hHeld ?_
                  · (intro w_ hSw; clear hSw; go_simp; first | done | with_reducible rfl | rfl | (intro h_; omega) | (simp only [IntKind.wrap, IntKind.bits, IntKind.signed]; omega) | (simp [IntKind.wrap, IntKind.bits, IntKind.signed]; omega))
                  set_option linter.unusedSimpArgs false in try simp only [Act.put, List.setIfInBounds_toArray, List.set_cons_zero, List.set_cons_succ]
                  refine wpAnyH_take (i := 7) (oi := { dst := some 77, op := _, type := _, pos := _, after := _, guard := _ }) (v := .pointer (some ⟨g, y + k, none⟩)) rfl (by kernel_rfl) (by kernel_rfl) (by kernel_rfl) (fun _ _ _ h => h) (Or.inl ⟨by rfl, ?_⟩) hHeld ?_
                  · (intro w_ hSw; clear hSw; go_simp; first | done | with_reducible rfl | rfl | (intro h_; omega) | (simp only [IntKind.wrap, IntKind.bits, IntKind.signed]; omega) | (simp [IntKind.wrap, IntKind.bits, IntKind.signed]; omega))
                  set_option linter.unusedSimpArgs false in try simp only [Act.put, List.setIfInBounds_toArray, List.set_cons_zero, List.set_cons_succ]
                  refine wpAnyH_ready (rs := [8]) (by kernel_rfl) (by simp) ?_
                  refine AllReadyH.cons rfl (fun K hK => ?_) ?_
                  rotate_left
                  · exact AllReadyH.nil
                  have f_ := ho4.frozenAt (y + k)
                  have c_ := ho4.cellAt (y + k) (by omega)
                  rw [HC2.out] at c_
                  have st_ := ho4.stored (y + k) (.int .i64 ((M : Nat) : Int))
                  have HST := Lib.hid st_
                  clear st_
                  try rw [if_pos (by rfl)]
                  go_simp
                  have go_ : OwnI (w4.setCell ⟨g, y + k, none⟩ (.int .i64 ((M : Nat) : Int))) w.heap.size (some ⟨g, 0, none⟩) 24 cap (rowsOfR (clearF s.1 MK y (k + 1))) := by
                    unfold OwnI
                    rw [HN.out]
                    exact HST.out.1
                  have g9 : BoxF (w4.setCell ⟨g, y + k, none⟩ (.int .i64 ((M : Nat) : Int))) q [.int .i64 (x : Int), .int .i64 (y : Int), .int .i64 (n : Int)] 36 ∧ OwnBx (w4.setCell ⟨g, y + k, none⟩ (.int .i64 ((M : Nat) : Int))) (g + 1) v5 (L ++ [(Bx.mk (x : Int) (y : Int) (n : Int))]) ∧ Below w.heap.size w (w4.setCell ⟨g, y + k, none⟩ (.int .i64 ((M : Nat) : Int))) ∧ (OwnI (w4.setCell ⟨g, y + k, none⟩ (.int .i64 ((M : Nat) : Int))) w.heap.size (some ⟨g, 0, none⟩) 24 cap (rowsOfR (clearF s.1 MK y k)) ∨ OwnI (w4.setCell ⟨g, y + k, none⟩ (.int .i64 ((M : Nat) : Int))) w.heap.size (some ⟨g, 0, none⟩) 24 cap (rowsOfR (clearF s.1 MK y (k + 1)))) := ⟨gB4.kept HST.out.2 (by intro e; cases e; omega), gV4.kept HST.out.2 (far_row gV4), gW4.grown HST.out.2 gW4.size (fun p hp => by cases hp; exact hgB.out), .inr go_⟩
                  clear f_ c_
                  refine hK.out _ _ (g9) (fun hHeld => ?_)
                  clear hK K
                  set_option linter.unusedSimpArgs false in try simp only [Act.put, List.setIfInBounds_toArray, List.set_cons_zero, List.set_cons_succ]
                  refine wpAnyH_done (by kernel_rfl) ?_ _
                  refine NoPanic.normal ?_
                  have HO6 := Lib.hid go_
                  have HV6 := Lib.hid g9.2.1
                  have HQ6 := Lib.hid g9.1
                  have HB6 := Lib.hid g9.2.2.1
                  clear hHeld g9 go_ HST ho4 gB4 gV4 gW4
                  go_wp2_with fail
                  go_roundw
                  case rel => exact ⟨k + 1, by omega, by go_num, HO6, HV6, HQ6, HB6⟩
                  case measure => simp [intOf]; omega
                exact AllReadyH.nil
              · obtain rfl : k = n := by omega
                have elk : decide ((k : Int) < (k : Int)) = false := decide_eq_false (by omega)
                go_wp2_with fail
                go_roundg gh
                case measure => omega
                case rel => exact ⟨(clearF s.1 (maskN k x) y k, L ++ [(Bx.mk (x : Int) (y : Int) (k : Int))]), by show (L ++ [_]).length + gh = m; rw [List.length_append, List.length_singleton]; omega, by rw [← HLL.out]; exact Lib.hid HST.out.2, HV, HO3, HB3⟩
        · have elm : decide ((s.2.length : Int) < (m : Int)) = false := decide_eq_false (by omega)
          have HE := Lib.hid (HS.out.full (by omega))
          clear hGF
          go_wp2_with fail
          go_roundw
          case rel => exact ⟨y + 1, by omega, by go_num, Lib.hid (by show OwnBx _ _ _ (rowS n m y (21 - n) (allS n m V y)).2; rw [HEQ.out, ← HE.out]; exact HL.out), Lib.hid (by show OwnI _ _ _ _ _ (rowsOfR (rowS n m y (21 - n) (allS n m V y)).1); rw [HEQ.out, ← HE.out]; exact HO.out), HB⟩
          case measure => simp [intOf]; omega
    · obtain rfl : y = 25 - n := by omega
      have ely : decide (((25 - n : Nat) : Int) < 24 - (n : Int) + 1) = false := decide_eq_false (by omega)
      obtain ⟨av, cv, rfl⟩ := HL.out.slice
      have HF := Lib.hid (show OwnBx wr (g + 1) (.slice av (fillL V n m).length cv) (fillL V n m) from HL.out)
      have HZ := Lib.hid (show (allS n m V (25 - n)).2.length = (fillL V n m).length from rfl)
      rw [HZ.out]
      clear HL HZ
      go_wp2_with fail
      go_ret2
      exact ⟨av, cv, rfl, HF.out.low (by have := hgB.out; omega), HB.out⟩
end Go.Proofs.YthapidnjioindaaDoor
