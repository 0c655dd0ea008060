/- Contract: l11Fill of the model. -/
import Derived.Test.YthapidnjioindaaDoorC11H
namespace Go.Proofs.YthapidnjioindaaDoor
open Go.RowKit

/-- The slice's own memory is not block g. -/
def FarB (v : Value) (g : Nat) : Prop := v.ownBlock = none ∨ v.ownBlock ≠ some g
theorem rowS_succ (n m y k : Nat) (s : (Nat → Nat) × List Bx) : rowS n m y (k + 1) s = takeS n m y k (rowS n m y k s) := rfl
set_option maxRecDepth 100000 in
set_option maxHeartbeats 8000000 in
theorem l11Fill_any (V : Nat → Nat) (n m : Nat) (a : Option Addr) (c : Nat) (w : World) (h : RdI w a 24 (rowsOfR V)) (hV : GoodF V) (hn1 : 1 ≤ n) (hn8 : n ≤ 8) (hm : m ≤ 40) :
    Calls Tryd.prog 58 #[.agg #[.slice a 24 c], .int .i64 (n : Int), .int .i64 (m : Int)] w fun e w' => ∃ av cv, e = .returned (.slice av (fillL V n m).length cv) ∧ OwnBx w' w.heap.size (.slice av (fillL V n m).length cv) (fillL V n m) ∧ Below w.heap.size w w' := by
  obtain ⟨i0, hi, hz0, hz1, hz2⟩ := info_parts infoBx
  have XA := (BoxF.new w [.slice a 24 c] 26).alloc (.cells #[] 36 (0, 0))
  have own0 := World.ownsRow_lit (e := 36) (size := 3) (base := w.heap.size) (w.alloc (.cells #[.slice a 24 c] 26 (0, 0))) #[] 0 (by simp) (by unfold maxLen; omega) rfl
  have hb := ((Below.refl _ w).alloc (Nat.le_refl _) (.cells #[.slice a 24 c] 26 (0, 0))).alloc (by simp) (.cells #[] 36 (0, 0))
  simp only [World.size_alloc] at own0
  have c1 := XA.one.1
  have CC := Lib.hid (fun W (h : RdI W a 24 (rowsOfR V)) => own24 (rowsOfR V) (rowsOfR_len V) a c W h)
  have HV0 := Lib.hid (show OwnBx _ w.heap.size (.slice (some ⟨w.heap.size + 1, 0, none⟩) 0 0) [] from own0)
  have HB := Lib.hid hb
  have HR := Lib.hid h
  have HV := Lib.hid hV
  clear h XA hb own0 hV
  go_enter Tryd.func58, Tryd.ntmps58
  go_wp2_with fail
  refine (CC.out _ (HR.out.below HB.out)).mono ?_
  rintro e w2 ⟨g, cap, rfl, ho, hb2⟩
  have hgw := (World.ownsRow.lt ho g rfl).1
  simp only [World.size_alloc] at hgw
  have HV2 := Lib.hid (OwnBx.below HV0.out hb2)
  have HB2 := Lib.hid (HB.out.trans (hb2.mono HB.out.size))
  have hgB := Lib.hid (show w.heap.size ≤ g by omega)
  have hcap := ownI_cap ho
  have HO2 := Lib.hid (OwnI.low ho HB.out.size)
  have HF2 : Hid (FarB (.slice (some ⟨w.heap.size + 1, 0, none⟩) 0 0) g) := Lib.hid (.inr (by simp [Value.ownBlock]; omega))
  clear hb2 ho c1 HV0 HB CC hgw
  go_wp2_with fail
  go_loopw [7, 9] (fun v i wr => ∃ y : Nat, y + n ≤ 25 ∧ i = .int .i64 (y : Int) ∧ Hid (OwnBx wr w.heap.size v (allS n m V y).2) ∧ Hid (FarB v g) ∧ Hid (OwnI wr w.heap.size (some ⟨g, 0, none⟩) 24 cap (rowsOfR (allS n m V y).1)) ∧ Hid (Below w.heap.size w wr)) (fun _ i _ => 25 - (intOf i).toNat)
  case atStart => exact ⟨0, by omega, rfl, HV2, HF2, HO2, HB2⟩
  case round =>
    clear HV2 HF2 HO2 HB2
    obtain ⟨y, hy, rfl, HL, HF, HO, HB⟩ := hrel
    by_cases hlt : y + n ≤ 24
    · have ely : decide ((y : Int) + (n : Int) ≤ 24) = true := decide_eq_true (by omega)
      go_wp2_with fail
      obtain ⟨s0, hs0⟩ : ∃ s, allS n m V y = s := ⟨_, rfl⟩
      have HEQ := Lib.hid hs0
      have HOK := Lib.hid (fun k (hk : k + n ≤ 21) => show OkS V n m (rowS n m y k s0) by rw [← hs0]; exact rowS_ok hn8 hlt (allS_ok hn8 HV.out y (by omega)) k hk)
      rw [hs0] at HL HO
      clear hs0 ely
      go_loopw [7, 10] (fun v i wr => ∃ x : Nat, x + n ≤ 21 ∧ i = .int .i64 (x : Int) ∧ Hid (OwnBx wr w.heap.size v (rowS n m y x s0).2) ∧ Hid (FarB v g) ∧ Hid (OwnI wr w.heap.size (some ⟨g, 0, none⟩) 24 cap (rowsOfR (rowS n m y x s0).1)) ∧ Hid (Below w.heap.size w wr)) (fun _ i _ => 21 - (intOf i).toNat)
      case atStart => exact ⟨0, by omega, rfl, HL, HF, HO, HB⟩
      case round =>
        clear HL HF HO HB
        obtain ⟨x, hx, rfl, HL, HF, HO, HB⟩ := hrel
        obtain ⟨hGF, hlen, _, _⟩ := HOK.out x hx
        have HSC := Lib.hid (rowS_succ n m y x s0)
        have HFU := Lib.hid (fun h => rowS_full (n := n) (m := m) (y := y) (k := x) (s := s0) h)
        obtain ⟨s, hs⟩ : ∃ s, rowS n m y x s0 = s := ⟨_, rfl⟩
        rw [hs] at HL HO hGF hlen HSC HFU
        obtain ⟨av, cv, rfl⟩ := HL.out.slice
        by_cases hlx : x + n ≤ 20
        · have elx : decide ((x : Int) + (n : Int) ≤ 20) = true := decide_eq_true (by omega)
          by_cases hlm : s.2.length < m
          · have elm : decide ((s.2.length : Int) < (m : Int)) = true := decide_eq_true (by omega)
            have CW := fun W (h : RdI W (some ⟨g, 0, none⟩) 24 (rowsOfR s.1)) => l11Whole_any s.1 x y n (some ⟨g, 0, none⟩) cap W h (fun j hj => (hGF j hj).1) (by omega) (by omega) hn8
            rw [whole_good hGF hlt] at CW
            obtain ⟨z, hz⟩ : ∃ z, whole (tb s.1) x y n = z := ⟨_, rfl⟩
            rw [hz] at CW
            have CW := Lib.hid CW
            have hbx := (Below.refl wr.heap.size wr).alloc (Nat.le_refl _) (.cells #[.int .i64 (x : Int), .int .i64 (y : Int), .int .i64 (n : Int)] 36 (0, 0))
            have HL1 := Lib.hid (HL.out.below hbx)
            have HO1 := Lib.hid (HO.out.below hbx)
            have HB1 := Lib.hid (HB.out.trans (hbx.mono HB.out.size))
            have HX1 := Lib.hid (BoxF.new wr [.int .i64 (x : Int), .int .i64 (y : Int), .int .i64 (n : Int)] 36)
            have HGF := Lib.hid hGF
            clear HL HO HB hGF hbx
            cases z
            · have HE := Lib.hid (show rowS n m y (x + 1) s0 = s from HSC.out.trans (takeS_no hz))
              clear hz HSC HFU
              go_wp2_with fail
              refine (CW.out _ HO1.out.rd).mono ?_
              rintro e w3 ⟨rfl, hb3⟩
              have HL3 := Lib.hid (HL1.out.below hb3)
              have HO3 := Lib.hid (HO1.out.below hb3)
              have HB3 := Lib.hid (HB1.out.trans (hb3.mono HB1.out.size))
              clear hb3 HL1 HO1 HB1 HX1
              go_wp2_with fail
              go_roundw
              case rel => exact ⟨x + 1, by omega, by go_num, by rw [HE.out]; exact HL3, HF, by rw [HE.out]; exact HO3, HB3⟩
              case measure => simp [intOf]; omega
            · have HE := Lib.hid (show rowS n m y (x + 1) s0 = _ from HSC.out.trans (takeS_yes hlm hz))
              obtain ⟨L, hL⟩ : ∃ L, s.2 = L := ⟨_, rfl⟩
              rw [hL] at HL1 HF hlm hlen elm HE
              rw [hL]
              clear hz HSC HFU hs hL
              go_wp2_with fail
              refine (CW.out _ HO1.out.rd).mono ?_
              rintro e w3 ⟨rfl, hb3⟩
              have hq3 := hb3.size
              simp only [World.size_alloc] at hq3
              have HL3 := Lib.hid (HL1.out.below hb3)
              have HO3 := Lib.hid (HO1.out.below hb3)
              have HB3 := Lib.hid (HB1.out.trans (hb3.mono HB1.out.size))
              have HX3 := HX1.out.below hb3
              have d0 := HX3.at 0
              have d1 := HX3.at 1
              have d2 := HX3.at 2
              simp only [List.getElem?_cons_zero, List.getElem?_cons_succ] at d0 d1 d2
              have hbs := HB3.out.size
              have hgq := (World.ownsRow.lt HO3.out g rfl).2
              clear hb3 HL1 HO1 HB1 HX1 HX3 CW
              go_wp2_with (at_builtin; refine wpList_append_own_at _ rfl _ _ 29 rfl w.heap.size 36 i0 _ 3 24 Tryd.underlying29 hi hz0 hz1 hz2 rfl (by decide) _ _ _ rfl (World.ownsRow.alloc HL3.out _) ⟨w3.heap.size, 0, none⟩ 1 1 [.int .i64 (x : Int), .int .i64 (y : Int), .int .i64 (n : Int)] rfl rfl (cell_newB w3 [.int .i64 (x : Int), .int .i64 (y : Int), .int .i64 (n : Int)] 36) (by simp [Value.oneCell']) (by unfold maxLen; omega) (by omega) (by simp; omega) ?_; intro v5 w5 hown5 hgrow5 hnil5 hat5)
              have hgr5 : (w3.alloc (.cells #[.int .i64 (x : Int), .int .i64 (y : Int), .int .i64 (n : Int)] 36 (0, 0))).grownBy w5 (Value.slice av L.length cv).ownBlock := hgrow5
              have hat6 : v5.ownBlock = (Value.slice av L.length cv).ownBlock ∨ v5.ownBlock = some (w3.alloc (.cells #[.int .i64 (x : Int), .int .i64 (y : Int), .int .i64 (n : Int)] 36 (0, 0))).heap.size := hat5
              have HV5 := Lib.hid (show OwnBx w5 w.heap.size v5 (L ++ [Bx.mk (x : Int) (y : Int) (n : Int)]) from app_bx (F := Bx.mk (x : Int) (y : Int) (n : Int)) hown5 rfl rfl)
              have HF5 : Hid (FarB v5 g) := Lib.hid (by
                rcases hat6 with h | h
                · rcases HF.out with h' | h'
                  · exact .inl (h.trans h')
                  · exact .inr (by rw [h]; exact h')
                · refine .inr (by rw [h]; intro e; simp at e; omega))
              have BA := (Below.refl w3.heap.size w3).alloc (Nat.le_refl _) (.cells #[.int .i64 (x : Int), .int .i64 (y : Int), .int .i64 (n : Int)] 36 (0, 0))
              have HO5 := Lib.hid (OwnI.kept (HO3.out.below BA) hgr5 (.inr (fun e => by
                rcases HF.out with h | h
                · rw [h] at e; cases e
                · exact h e.symm)))
              have HB5 := Lib.hid ((HB3.out.trans (BA.mono HB3.out.size)).grown hgr5 (by simp; omega) (fun p hp => (World.ownsRow.lt HL3.out p hp).1))
              clear BA hown5 hgrow5 hnil5 hat5 hgr5 hat6 HL3 HO3 HB3 HF d0 d1 d2 elm elx hgq
              go_wp2_with fail
              have hxx : x ≤ 20 := by omega
              go_loopw [12] (fun i wz => ∃ j : Nat, j ≤ n ∧ i = .int .i64 ((y : Int) + (j : Int)) ∧ Hid (OwnI wz w.heap.size (some ⟨g, 0, none⟩) 24 cap (rowsOfR (clearF s.1 (maskN n x) y j))) ∧ Hid (OwnBx wz w.heap.size v5 (L ++ [Bx.mk (x : Int) (y : Int) (n : Int)])) ∧ Hid (Below w.heap.size w wz)) (fun i _ => y + n - (intOf i).toNat)
              case atStart => exact ⟨0, by omega, by simp, by rw [clearF_zero]; exact HO5, HV5, HB5⟩
              case round =>
                clear HO5 HV5 HB5
                obtain ⟨j, hj, rfl, HO6, HV6, HB6⟩ := hrel
                by_cases hlj : j < n
                · have elj : decide ((y : Int) + (j : Int) < (y : Int) + (n : Int)) = true := decide_eq_true (by omega)
                  obtain ⟨M, hM⟩ : ∃ M, lessN (s.1 (y + j)) (maskN n x) = M := ⟨_, rfl⟩
                  have HN := Lib.hid (show (rowsOfR (clearF s.1 (maskN n x) y (j + 1))).map (Value.int .i64) = ((rowsOfR (clearF s.1 (maskN n x) y j)).map (Value.int .i64)).set (y + j) (.int .i64 ((M : Nat) : Int)) by rw [← clearF_set s.1 (maskN n x) y (by omega), List.map_set, hM])
                  have hc2 : ((rowsOfR (clearF s.1 (maskN n x) y j)).map (Value.int .i64))[y + j]? = some (.int .i64 ((s.1 (y + j) : Nat) : Int)) := by rw [List.getElem?_map, rowsOfR_at _ (by omega), clearF_at]; rfl
                  have han := i64_andNot_nat (s.1 (y + j)) (maskN n x) (by have := (HGF.out (y + j) (by omega)).1; omega) (maskN_lt hn8 (by omega))
                  rw [hM] at han
                  have c_ := HO6.out.cellAt (y + j) (by omega)
                  rw [hc2] at c_
                  have f_ := HO6.out.frozenAt (y + j)
                  have HST := Lib.hid (HO6.out.stored (y + j) (.int .i64 ((M : Nat) : Int)))
                  have hwm := wrap_mask hn8 hxx
                  clear hM hc2
                  generalize s.1 (y + j) = N at c_ han
                  generalize maskN n x = MK at *
                  go_wp2_with fail
                  clear hwm
                  go_roundw
                  case rel => exact ⟨j + 1, by omega, by go_num, Lib.hid (by unfold OwnI; rw [HN.out]; exact HST.out.1), Lib.hid (HV6.out.kept HST.out.2 HF5.out), Lib.hid (HB6.out.grown HST.out.2 HB6.out.size (fun p hp => by cases hp; exact hgB.out))⟩
                  case measure => simp [intOf]; omega
                · obtain rfl : j = n := by omega
                  have elj : decide ((y : Int) + (j : Int) < (y : Int) + (j : Int)) = false := decide_eq_false (by omega)
                  go_wp2_with fail
                  go_roundw
                  case rel => exact ⟨x + 1, by omega, by go_num, by rw [HE.out]; exact HV6, HF5, by rw [HE.out]; exact HO6, HB6⟩
                  case measure => simp [intOf]; omega
          · have elm : decide ((s.2.length : Int) < (m : Int)) = false := decide_eq_false (by omega)
            have HE := Lib.hid (show rowS n m y (21 - n) s0 = s by
              have h1 := HFU.out (by omega) (21 - n - x)
              rwa [show x + (21 - n - x) = 21 - n by omega] at h1)
            clear hs HSC HFU hGF
            go_wp2_with fail
            go_roundw
            case rel => exact ⟨y + 1, by omega, by go_num, Lib.hid (by show OwnBx _ _ _ (rowS n m y (21 - n) (allS n m V y)).2; rw [HEQ.out, HE.out]; exact HL.out), HF, Lib.hid (by show OwnI _ _ _ _ _ (rowsOfR (rowS n m y (21 - n) (allS n m V y)).1); rw [HEQ.out, HE.out]; exact HO.out), HB⟩
            case measure => simp [intOf]; omega
        · have elx : decide ((x : Int) + (n : Int) ≤ 20) = false := decide_eq_false (by omega)
          have HE := Lib.hid (show rowS n m y (21 - n) s0 = s by rw [show 21 - n = x by omega]; exact hs)
          clear hs HSC HFU hGF
          go_wp2_with fail
          go_roundw
          case rel => exact ⟨y + 1, by omega, by go_num, Lib.hid (by show OwnBx _ _ _ (rowS n m y (21 - n) (allS n m V y)).2; rw [HEQ.out, HE.out]; exact HL.out), HF, Lib.hid (by show OwnI _ _ _ _ _ (rowsOfR (rowS n m y (21 - n) (allS n m V y)).1); rw [HEQ.out, HE.out]; exact HO.out), HB⟩
          case measure => simp [intOf]; omega
    · obtain rfl : y = 25 - n := by omega
      have ely : decide (((25 - n : Nat) : Int) + (n : Int) ≤ 24) = false := decide_eq_false (by omega)
      obtain ⟨av, cv, rfl⟩ := HL.out.slice
      have HF := Lib.hid (show OwnBx wr w.heap.size (.slice av (fillL V n m).length cv) (fillL V n m) from HL.out)
      have HZ := Lib.hid (show (allS n m V (25 - n)).2.length = (fillL V n m).length from rfl)
      rw [HZ.out]
      clear HL HZ
      go_wp2_with fail
      go_ret
      exact ⟨av, cv, rfl, HF.out, HB.out⟩
end Go.Proofs.YthapidnjioindaaDoor
