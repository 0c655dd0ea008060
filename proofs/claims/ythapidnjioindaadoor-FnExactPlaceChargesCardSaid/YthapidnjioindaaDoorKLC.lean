/- Several small texts in one: C11I, C11J, C11N. -/
import Derived.Test.YthapidnjioindaaDoorC11H
namespace Go.Proofs.YthapidnjioindaaDoor
open Go.RowKit

/-- The slice's own memory is not block g. -/
def FarB (v : Value) (g : Nat) : Prop := v.ownBlock = none ∨ v.ownBlock ≠ some g
theorem rowS_succ (n m y k : Nat) (s : (Nat → Nat) × List Bx) : rowS n m y (k + 1) s = takeS n m y k (rowS n m y k s) := rfl
set_option maxRecDepth 100000 in
set_option maxHeartbeats 8000000 in
theorem l11Fill_any (V : Nat → Nat) (n m : Nat) (a : Option Addr) (c : Nat) (w : World) (h : RdI w a 24 (rowsOfR V)) (hV : GoodF V) (hn1 : 1 ≤ n) (hn8 : n ≤ 8) (hm : m ≤ 40) :
    Calls Tryd.prog 58 #[.agg #[.slice a 24 c], .int .i64 (n : Int), .int .i64 (m : Int)] w fun e w' => ∃ av cv, e = .returned (.slice av (fillL V n m).length cv) ∧ OwnBx w' w.heap.size (.slice av (fillL V n m).length cv) (fillL V n m) ∧ Below w.heap.size w w' := by
  obtain ⟨i0, hi, hz0, hz1, hz2⟩ := info_parts infoBx
  have XA := (BoxF.new w [.slice a 24 c] 26).alloc (.cells #[] 36 (0, 0))
  have own0 := World.ownsRow_lit (e := 36) (size := 3) (base := w.heap.size) (w.alloc (.cells #[.slice a 24 c] 26 (0, 0))) #[] 0 (by simp) (by unfold maxLen; omega) rfl
  have hb := ((Below.refl _ w).alloc (Nat.le_refl _) (.cells #[.slice a 24 c] 26 (0, 0))).alloc (by simp) (.cells #[] 36 (0, 0))
  simp only [World.size_alloc] at own0
  have c1 := XA.one.1
  have CC := Lib.hid (fun W (h : RdI W a 24 (rowsOfR V)) => own24 (rowsOfR V) (rowsOfR_len V) a c W h)
  have HV0 := Lib.hid (show OwnBx _ w.heap.size (.slice (some ⟨w.heap.size + 1, 0, none⟩) 0 0) [] from own0)
  have HB := Lib.hid hb
  have HR := Lib.hid h
  have HV := Lib.hid hV
  clear h XA hb own0 hV
  go_enter Tryd.func58, Tryd.ntmps58
  go_wp2_with fail
  refine (CC.out _ (HR.out.below HB.out)).mono ?_
  rintro e w2 ⟨g, cap, rfl, ho, hb2⟩
  have hgw := (World.ownsRow.lt ho g rfl).1
  simp only [World.size_alloc] at hgw
  have HV2 := Lib.hid (OwnBx.below HV0.out hb2)
  have HB2 := Lib.hid (HB.out.trans (hb2.mono HB.out.size))
  have hgB := Lib.hid (show w.heap.size ≤ g by omega)
  have hcap := ownI_cap ho
  have HO2 := Lib.hid (OwnI.low ho HB.out.size)
  have HF2 : Hid (FarB (.slice (some ⟨w.heap.size + 1, 0, none⟩) 0 0) g) := Lib.hid (.inr (by simp [Value.ownBlock]; omega))
  clear hb2 ho c1 HV0 HB CC hgw
  go_wp2_with fail
  go_loopw [7, 9] (fun v i wr => ∃ y : Nat, y + n ≤ 25 ∧ i = .int .i64 (y : Int) ∧ Hid (OwnBx wr w.heap.size v (allS n m V y).2) ∧ Hid (FarB v g) ∧ Hid (OwnI wr w.heap.size (some ⟨g, 0, none⟩) 24 cap (rowsOfR (allS n m V y).1)) ∧ Hid (Below w.heap.size w wr)) (fun _ i _ => 25 - (intOf i).toNat)
  case atStart => exact ⟨0, by omega, rfl, HV2, HF2, HO2, HB2⟩
  case round =>
    clear HV2 HF2 HO2 HB2
    obtain ⟨y, hy, rfl, HL, HF, HO, HB⟩ := hrel
    by_cases hlt : y + n ≤ 24
    · have ely : decide ((y : Int) + (n : Int) ≤ 24) = true := decide_eq_true (by omega)
      go_wp2_with fail
      obtain ⟨s0, hs0⟩ : ∃ s, allS n m V y = s := ⟨_, rfl⟩
      have HEQ := Lib.hid hs0
      have HOK := Lib.hid (fun k (hk : k + n ≤ 21) => show OkS V n m (rowS n m y k s0) by rw [← hs0]; exact rowS_ok hn8 hlt (allS_ok hn8 HV.out y (by omega)) k hk)
      rw [hs0] at HL HO
      clear hs0 ely
      go_loopw [7, 10] (fun v i wr => ∃ x : Nat, x + n ≤ 21 ∧ i = .int .i64 (x : Int) ∧ Hid (OwnBx wr w.heap.size v (rowS n m y x s0).2) ∧ Hid (FarB v g) ∧ Hid (OwnI wr w.heap.size (some ⟨g, 0, none⟩) 24 cap (rowsOfR (rowS n m y x s0).1)) ∧ Hid (Below w.heap.size w wr)) (fun _ i _ => 21 - (intOf i).toNat)
      case atStart => exact ⟨0, by omega, rfl, HL, HF, HO, HB⟩
      case round =>
        clear HL HF HO HB
        obtain ⟨x, hx, rfl, HL, HF, HO, HB⟩ := hrel
        obtain ⟨hGF, hlen, _, _⟩ := HOK.out x hx
        have HSC := Lib.hid (rowS_succ n m y x s0)
        have HFU := Lib.hid (fun h => rowS_full (n := n) (m := m) (y := y) (k := x) (s := s0) h)
        obtain ⟨s, hs⟩ : ∃ s, rowS n m y x s0 = s := ⟨_, rfl⟩
        rw [hs] at HL HO hGF hlen HSC HFU
        obtain ⟨av, cv, rfl⟩ := HL.out.slice
        by_cases hlx : x + n ≤ 20
        · have elx : decide ((x : Int) + (n : Int) ≤ 20) = true := decide_eq_true (by omega)
          by_cases hlm : s.2.length < m
          · have elm : decide ((s.2.length : Int) < (m : Int)) = true := decide_eq_true (by omega)
            have CW := fun W (h : RdI W (some ⟨g, 0, none⟩) 24 (rowsOfR s.1)) => l11Whole_any s.1 x y n (some ⟨g, 0, none⟩) cap W h (fun j hj => (hGF j hj).1) (by omega) (by omega) hn8
            rw [whole_good hGF hlt] at CW
            obtain ⟨z, hz⟩ : ∃ z, whole (tb s.1) x y n = z := ⟨_, rfl⟩
            rw [hz] at CW
            have CW := Lib.hid CW
            have hbx := (Below.refl wr.heap.size wr).alloc (Nat.le_refl _) (.cells #[.int .i64 (x : Int), .int .i64 (y : Int), .int .i64 (n : Int)] 36 (0, 0))
            have HL1 := Lib.hid (HL.out.below hbx)
            have HO1 := Lib.hid (HO.out.below hbx)
            have HB1 := Lib.hid (HB.out.trans (hbx.mono HB.out.size))
            have HX1 := Lib.hid (BoxF.new wr [.int .i64 (x : Int), .int .i64 (y : Int), .int .i64 (n : Int)] 36)
            have HGF := Lib.hid hGF
            clear HL HO HB hGF hbx
            cases z
            · have HE := Lib.hid (show rowS n m y (x + 1) s0 = s from HSC.out.trans (takeS_no hz))
              clear hz HSC HFU
              go_wp2_with fail
              refine (CW.out _ HO1.out.rd).mono ?_
              rintro e w3 ⟨rfl, hb3⟩
              have HL3 := Lib.hid (HL1.out.below hb3)
              have HO3 := Lib.hid (HO1.out.below hb3)
              have HB3 := Lib.hid (HB1.out.trans (hb3.mono HB1.out.size))
              clear hb3 HL1 HO1 HB1 HX1
              go_wp2_with fail
              go_roundw
              case rel => exact ⟨x + 1, by omega, by go_num, by rw [HE.out]; exact HL3, HF, by rw [HE.out]; exact HO3, HB3⟩
              case measure => simp [intOf]; omega
            · have HE := Lib.hid (show rowS n m y (x + 1) s0 = _ from HSC.out.trans (takeS_yes hlm hz))
              obtain ⟨L, hL⟩ : ∃ L, s.2 = L := ⟨_, rfl⟩
              rw [hL] at HL1 HF hlm hlen elm HE
              rw [hL]
              clear hz HSC HFU hs hL
              go_wp2_with fail
              refine (CW.out _ HO1.out.rd).mono ?_
              rintro e w3 ⟨rfl, hb3⟩
              have hq3 := hb3.size
              simp only [World.size_alloc] at hq3
              have HL3 := Lib.hid (HL1.out.below hb3)
              have HO3 := Lib.hid (HO1.out.below hb3)
              have HB3 := Lib.hid (HB1.out.trans (hb3.mono HB1.out.size))
              have HX3 := HX1.out.below hb3
              have d0 := HX3.at 0
              have d1 := HX3.at 1
              have d2 := HX3.at 2
              simp only [List.getElem?_cons_zero, List.getElem?_cons_succ] at d0 d1 d2
              have hbs := HB3.out.size
              have hgq := (World.ownsRow.lt HO3.out g rfl).2
              clear hb3 HL1 HO1 HB1 HX1 HX3 CW
              go_wp2_with (at_builtin; refine wpList_append_own_at _ rfl _ _ 29 rfl w.heap.size 36 i0 _ 3 24 Tryd.underlying29 hi hz0 hz1 hz2 rfl (by decide) _ _ _ rfl (World.ownsRow.alloc HL3.out _) ⟨w3.heap.size, 0, none⟩ 1 1 [.int .i64 (x : Int), .int .i64 (y : Int), .int .i64 (n : Int)] rfl rfl (cell_newB w3 [.int .i64 (x : Int), .int .i64 (y : Int), .int .i64 (n : Int)] 36) (by simp [Value.oneCell']) (by unfold maxLen; omega) (by omega) (by simp; omega) ?_; intro v5 w5 hown5 hgrow5 hnil5 hat5)
              have hgr5 : (w3.alloc (.cells #[.int .i64 (x : Int), .int .i64 (y : Int), .int .i64 (n : Int)] 36 (0, 0))).grownBy w5 (Value.slice av L.length cv).ownBlock := hgrow5
              have hat6 : v5.ownBlock = (Value.slice av L.length cv).ownBlock ∨ v5.ownBlock = some (w3.alloc (.cells #[.int .i64 (x : Int), .int .i64 (y : Int), .int .i64 (n : Int)] 36 (0, 0))).heap.size := hat5
              have HV5 := Lib.hid (show OwnBx w5 w.heap.size v5 (L ++ [Bx.mk (x : Int) (y : Int) (n : Int)]) from app_bx (F := Bx.mk (x : Int) (y : Int) (n : Int)) hown5 rfl rfl)
              have HF5 : Hid (FarB v5 g) := Lib.hid (by
                rcases hat6 with h | h
                · rcases HF.out with h' | h'
                  · exact .inl (h.trans h')
                  · exact .inr (by rw [h]; exact h')
                · refine .inr (by rw [h]; intro e; simp at e; omega))
              have BA := (Below.refl w3.heap.size w3).alloc (Nat.le_refl _) (.cells #[.int .i64 (x : Int), .int .i64 (y : Int), .int .i64 (n : Int)] 36 (0, 0))
              have HO5 := Lib.hid (OwnI.kept (HO3.out.below BA) hgr5 (.inr (fun e => by
                rcases HF.out with h | h
                · rw [h] at e; cases e
                · exact h e.symm)))
              have HB5 := Lib.hid ((HB3.out.trans (BA.mono HB3.out.size)).grown hgr5 (by simp; omega) (fun p hp => (World.ownsRow.lt HL3.out p hp).1))
              clear BA hown5 hgrow5 hnil5 hat5 hgr5 hat6 HL3 HO3 HB3 HF d0 d1 d2 elm elx hgq
              go_wp2_with fail
              have hxx : x ≤ 20 := by omega
              go_loopw [12] (fun i wz => ∃ j : Nat, j ≤ n ∧ i = .int .i64 ((y : Int) + (j : Int)) ∧ Hid (OwnI wz w.heap.size (some ⟨g, 0, none⟩) 24 cap (rowsOfR (clearF s.1 (maskN n x) y j))) ∧ Hid (OwnBx wz w.heap.size v5 (L ++ [Bx.mk (x : Int) (y : Int) (n : Int)])) ∧ Hid (Below w.heap.size w wz)) (fun i _ => y + n - (intOf i).toNat)
              case atStart => exact ⟨0, by omega, by simp, by rw [clearF_zero]; exact HO5, HV5, HB5⟩
              case round =>
                clear HO5 HV5 HB5
                obtain ⟨j, hj, rfl, HO6, HV6, HB6⟩ := hrel
                by_cases hlj : j < n
                · have elj : decide ((y : Int) + (j : Int) < (y : Int) + (n : Int)) = true := decide_eq_true (by omega)
                  obtain ⟨M, hM⟩ : ∃ M, lessN (s.1 (y + j)) (maskN n x) = M := ⟨_, rfl⟩
                  have HN := Lib.hid (show (rowsOfR (clearF s.1 (maskN n x) y (j + 1))).map (Value.int .i64) = ((rowsOfR (clearF s.1 (maskN n x) y j)).map (Value.int .i64)).set (y + j) (.int .i64 ((M : Nat) : Int)) by rw [← clearF_set s.1 (maskN n x) y (by omega), List.map_set, hM])
                  have hc2 : ((rowsOfR (clearF s.1 (maskN n x) y j)).map (Value.int .i64))[y + j]? = some (.int .i64 ((s.1 (y + j) : Nat) : Int)) := by rw [List.getElem?_map, rowsOfR_at _ (by omega), clearF_at]; rfl
                  have han := i64_andNot_nat (s.1 (y + j)) (maskN n x) (by have := (HGF.out (y + j) (by omega)).1; omega) (maskN_lt hn8 (by omega))
                  rw [hM] at han
                  have c_ := HO6.out.cellAt (y + j) (by omega)
                  rw [hc2] at c_
                  have f_ := HO6.out.frozenAt (y + j)
                  have HST := Lib.hid (HO6.out.stored (y + j) (.int .i64 ((M : Nat) : Int)))
                  have hwm := wrap_mask hn8 hxx
                  clear hM hc2
                  generalize s.1 (y + j) = N at c_ han
                  generalize maskN n x = MK at *
                  go_wp2_with fail
                  clear hwm
                  go_roundw
                  case rel => exact ⟨j + 1, by omega, by go_num, Lib.hid (by unfold OwnI; rw [HN.out]; exact HST.out.1), Lib.hid (HV6.out.kept HST.out.2 HF5.out), Lib.hid (HB6.out.grown HST.out.2 HB6.out.size (fun p hp => by cases hp; exact hgB.out))⟩
                  case measure => simp [intOf]; omega
                · obtain rfl : j = n := by omega
                  have elj : decide ((y : Int) + (j : Int) < (y : Int) + (j : Int)) = false := decide_eq_false (by omega)
                  go_wp2_with fail
                  go_roundw
                  case rel => exact ⟨x + 1, by omega, by go_num, by rw [HE.out]; exact HV6, HF5, by rw [HE.out]; exact HO6, HB6⟩
                  case measure => simp [intOf]; omega
          · have elm : decide ((s.2.length : Int) < (m : Int)) = false := decide_eq_false (by omega)
            have HE := Lib.hid (show rowS n m y (21 - n) s0 = s by
              have h1 := HFU.out (by omega) (21 - n - x)
              rwa [show x + (21 - n - x) = 21 - n by omega] at h1)
            clear hs HSC HFU hGF
            go_wp2_with fail
            go_roundw
            case rel => exact ⟨y + 1, by omega, by go_num, Lib.hid (by show OwnBx _ _ _ (rowS n m y (21 - n) (allS n m V y)).2; rw [HEQ.out, HE.out]; exact HL.out), HF, Lib.hid (by show OwnI _ _ _ _ _ (rowsOfR (rowS n m y (21 - n) (allS n m V y)).1); rw [HEQ.out, HE.out]; exact HO.out), HB⟩
            case measure => simp [intOf]; omega
        · have elx : decide ((x : Int) + (n : Int) ≤ 20) = false := decide_eq_false (by omega)
          have HE := Lib.hid (show rowS n m y (21 - n) s0 = s by rw [show 21 - n = x by omega]; exact hs)
          clear hs HSC HFU hGF
          go_wp2_with fail
          go_roundw
          case rel => exact ⟨y + 1, by omega, by go_num, Lib.hid (by show OwnBx _ _ _ (rowS n m y (21 - n) (allS n m V y)).2; rw [HEQ.out, HE.out]; exact HL.out), HF, Lib.hid (by show OwnI _ _ _ _ _ (rowsOfR (rowS n m y (21 - n) (allS n m V y)).1); rw [HEQ.out, HE.out]; exact HO.out), HB⟩
          case measure => simp [intOf]; omega
    · obtain rfl : y = 25 - n := by omega
      have ely : decide (((25 - n : Nat) : Int) + (n : Int) ≤ 24) = false := decide_eq_false (by omega)
      obtain ⟨av, cv, rfl⟩ := HL.out.slice
      have HF := Lib.hid (show OwnBx wr w.heap.size (.slice av (fillL V n m).length cv) (fillL V n m) from HL.out)
      have HZ := Lib.hid (show (allS n m V (25 - n)).2.length = (fillL V n m).length from rfl)
      rw [HZ.out]
      clear HL HZ
      go_wp2_with fail
      go_ret
      exact ⟨av, cv, rfl, HF.out, HB.out⟩
end Go.Proofs.YthapidnjioindaaDoor
namespace Go.Proofs.YthapidnjioindaaDoor
open Go.RowKit

def nxF (X : List Int) : Nat → Nat := fun y => (X.getD y 0).toNat
theorem good_nx {X : List Int} (h : goodR X = true) : X = rowsOfR (nxF X) ∧ GoodF (nxF X) := by
  obtain ⟨V, hX, hV⟩ := good_out h
  have q : ∀ y, y < 24 → nxF X y = V y := fun y hy => by unfold nxF; rw [hX, rowsOfR_getD V hy]; simp
  refine ⟨hX.trans ?_, fun y hy => by rw [q y hy]; exact hV y hy⟩
  unfold rowsOfR
  apply List.map_congr_left
  intro j hj
  rw [List.mem_range] at hj
  rw [← q j hj]
/-- The filling is asked rightly. -/
def okF (X : List Int) (s m : Int) : Bool := goodR X && (decide (1 ≤ s ∧ s ≤ 8) && decide (0 ≤ m ∧ m ≤ 40))
def fillR (X : List Int) (s m : Int) : List Bx := if okF X s m = true then fillL (nxF X) s.toNat m.toNat else []
theorem fillR_le (X : List Int) (s m : Int) : (fillR X s m).length ≤ 40 := by
  unfold fillR
  split
  · rename_i h
    unfold okF at h
    simp only [Bool.and_eq_true, decide_eq_true_eq] at h
    have := fillL_le (m := m.toNat) (show s.toNat ≤ 8 by omega) (good_nx h.1).2
    omega
  · simp
theorem litBx (w : World) (B : Nat) (h : B ≤ w.heap.size) : OwnBx (w.alloc (.cells #[] 36 (0, 0))) B (.slice (some ⟨w.heap.size, 0, none⟩) 0 0) [] :=
  World.ownsRow_lit (e := 36) (size := 3) w #[] 0 h (by unfold maxLen; omega) rfl
set_option maxRecDepth 100000 in
set_option maxHeartbeats 4000000 in
theorem fillR_impl (X : List Int) (n : Nat) (a : Option Addr) (c : Nat) (s m : Int) (w : World) (h : RdI w a n X) (hwf : WfI X) (hn : n ≤ 1048577) (hT : TzT w) :
    Calls Tryd.prog 12 #[.agg #[.slice a n c], .int .i64 s, .int .i64 m] w (AnsBx w (fillR X s m) (okF X s m)) := by
  by_cases hok : okF X s m = true
  · have hf : fillR X s m = fillL (nxF X) s.toNat m.toNat := if_pos hok
    rw [hf, hok]
    unfold okF at hok
    simp only [Bool.and_eq_true, decide_eq_true_eq] at hok
    obtain ⟨hg, hs, hm⟩ := hok
    have h24 : n = 24 := by rw [← h.1]; exact goodR_len hg
    subst h24
    obtain ⟨e1, e2⟩ := good_nx hg
    rw [e1] at h
    have := fill_impl (nxF X) s.toNat m.toNat a c w h e2 (by omega) (by omega) (by omega) hT
    rwa [show ((s.toNat : Nat) : Int) = s by omega, show ((m.toNat : Nat) : Int) = m by omega] at this
  have hok := eq_false_of_ne_true hok
  have hf : fillR X s m = [] := if_neg (by rw [hok]; decide)
  rw [hf, hok]
  have XA := BoxF.new w [.slice a n c] 26
  have hb := (Below.refl _ w).alloc (Nat.le_refl _) (.cells #[.slice a n c] 26 (0, 0))
  have c1 := XA.one.1
  obtain ⟨g, hg⟩ : ∃ g, goodR X = g := ⟨_, rfl⟩
  obtain ⟨p, hp⟩ : ∃ p, decide (1 ≤ s ∧ s ≤ 8) = p := ⟨_, rfl⟩
  have CV0 := valid_impl X n a c _ (h.below hb) hwf hn
  rw [hg] at CV0
  have CV := Lib.hid CV0
  have CS := Lib.hid (fun W => boxSize_any s W p hp)
  have HB := Lib.hid hb
  unfold okF at hok
  rw [hg, hp] at hok
  clear h hwf XA hb hT CV0 hg hf
  cases g
  · clear hp hok
    go_enter Tryd.func12, Tryd.ntmps12
    go_wp2_with fail
    refine CV.out.mono ?_
    rintro e w1 ⟨rfl, hb1⟩
    have HB1 := Lib.hid (HB.out.trans (hb1.mono HB.out.size))
    clear hb1 c1
    go_wp2_with fail
    go_ret2
    exact ⟨none, 0, rfl, ownBx_nil _ _, HB1.out⟩
  cases p
  · clear hp hok
    go_enter Tryd.func12, Tryd.ntmps12
    go_wp2_with fail
    refine CV.out.mono ?_
    rintro e w1 ⟨rfl, hb1⟩
    have HB1 := Lib.hid (HB.out.trans (hb1.mono HB.out.size))
    clear hb1 c1
    go_wp2_with fail
    refine (CS.out _).mono ?_
    rintro e w2 ⟨rfl, rfl⟩
    go_wp2_with fail
    go_ret2
    exact ⟨none, 0, rfl, ownBx_nil _ _, HB1.out⟩
  simp only [Bool.true_and, decide_eq_false_iff_not] at hok
  clear hp
  by_cases hm0 : m < 0
  · have em0 : decide (m < 0) = true := decide_eq_true hm0
    go_enter Tryd.func12, Tryd.ntmps12
    go_wp2_with fail
    refine CV.out.mono ?_
    rintro e w1 ⟨rfl, hb1⟩
    have HB1 := Lib.hid (HB.out.trans (hb1.mono HB.out.size))
    clear hb1 c1
    go_wp2_with fail
    refine (CS.out _).mono ?_
    rintro e w2 ⟨rfl, rfl⟩
    go_wp2_with fail
    go_ret2
    exact ⟨none, 0, rfl, ownBx_nil _ _, HB1.out⟩
  · have em0 : decide (m < 0) = false := decide_eq_false hm0
    have em1 : decide (40 < m) = true := decide_eq_true (by omega)
    go_enter Tryd.func12, Tryd.ntmps12
    go_wp2_with fail
    refine CV.out.mono ?_
    rintro e w1 ⟨rfl, hb1⟩
    have HB1 := Lib.hid (HB.out.trans (hb1.mono HB.out.size))
    clear hb1 c1
    go_wp2_with fail
    refine (CS.out _).mono ?_
    rintro e w2 ⟨rfl, rfl⟩
    go_wp2_with fail
    go_ret2
    exact ⟨none, 0, rfl, ownBx_nil _ _, HB1.out⟩
set_option maxRecDepth 100000 in
set_option maxHeartbeats 4000000 in
theorem fillR_spec (X : List Int) (n : Nat) (a : Option Addr) (c : Nat) (s m : Int) (w : World) (h : RdI w a n X) (hn : n ≤ 1048577) :
    Calls Tryd.prog 13 #[.agg #[.slice a n c], .int .i64 s, .int .i64 m] w (AnsBx w (fillR X s m) (okF X s m)) := by
  have XA := BoxF.new w [.slice a n c] 26
  have hb := (Below.refl _ w).alloc (Nat.le_refl _) (.cells #[.slice a n c] 26 (0, 0))
  have c1 := XA.one.1
  obtain ⟨g, hg⟩ : ∃ g, goodR X = g := ⟨_, rfl⟩
  obtain ⟨p, hp⟩ : ∃ p, decide (1 ≤ s ∧ s ≤ 8) = p := ⟨_, rfl⟩
  obtain ⟨q, hq⟩ : ∃ q, decide (0 ≤ m ∧ m ≤ 40) = q := ⟨_, rfl⟩
  have CV0 := good_spec X n a c _ (h.below hb) hn
  rw [hg] at CV0
  have CV := Lib.hid CV0
  have CS := Lib.hid (fun W => in_any s 1 8 W p hp)
  have CM := Lib.hid (fun W => in_any m 0 40 W q hq)
  have HB := Lib.hid hb
  have HX := Lib.hid XA
  have HR := Lib.hid (h.below hb)
  have hok : okF X s m = (g && (p && q)) := by unfold okF; rw [hg, hp, hq]
  clear h XA hb CV0
  cases hall : (g && (p && q))
  · have hf : fillR X s m = [] := if_neg (by rw [hok, hall]; decide)
    rw [hf, hok, hall]
    clear hf hok hg hp hq
    cases g
    · clear hall
      go_enter Tryd.func13, Tryd.ntmps13
      go_wp2_with fail
      refine CV.out.mono ?_
      rintro e w1 ⟨rfl, hb1⟩
      have HB1 := Lib.hid (HB.out.trans (hb1.mono HB.out.size))
      clear hb1 c1
      go_wp2_with fail
      go_ret2
      exact ⟨_, 0, rfl, litBx _ _ HB1.out.size, HB1.out.alloc HB1.out.size _⟩
    cases p
    · clear hall
      go_enter Tryd.func13, Tryd.ntmps13
      go_wp2_with fail
      refine CV.out.mono ?_
      rintro e w1 ⟨rfl, hb1⟩
      have HB1 := Lib.hid (HB.out.trans (hb1.mono HB.out.size))
      clear hb1 c1
      go_wp2_with fail
      refine (CS.out _).mono ?_
      rintro e w2 ⟨rfl, rfl⟩
      go_wp2_with fail
      go_ret2
      exact ⟨_, 0, rfl, litBx _ _ HB1.out.size, HB1.out.alloc HB1.out.size _⟩
    · obtain rfl : q = false := by simpa using hall
      clear hall
      go_enter Tryd.func13, Tryd.ntmps13
      go_wp2_with fail
      refine CV.out.mono ?_
      rintro e w1 ⟨rfl, hb1⟩
      have HB1 := Lib.hid (HB.out.trans (hb1.mono HB.out.size))
      clear hb1 c1
      go_wp2_with fail
      refine (CS.out _).mono ?_
      rintro e w2 ⟨rfl, rfl⟩
      go_wp2_with fail
      refine (CM.out _).mono ?_
      rintro e w2 ⟨rfl, rfl⟩
      go_wp2_with fail
      go_ret2
      exact ⟨_, 0, rfl, litBx _ _ HB1.out.size, HB1.out.alloc HB1.out.size _⟩
  · have hf : fillR X s m = fillL (nxF X) s.toNat m.toNat := if_pos (by rw [hok, hall])
    rw [hf, hok, hall]
    simp only [Bool.and_eq_true] at hall
    obtain ⟨rfl, rfl, rfl⟩ := hall
    have hs := of_decide_eq_true hp
    have hm := of_decide_eq_true hq
    have h24 : n = 24 := by rw [← HR.out.1]; exact goodR_len hg
    subst h24
    obtain ⟨e1, e2⟩ := good_nx hg
    have CF0 := fun W (h : RdI W a 24 X) => l11Fill_any (nxF X) s.toNat m.toNat a c W (by rw [e1] at h; exact h) e2 (by omega) (by omega) (by omega)
    rw [show ((s.toNat : Nat) : Int) = s by omega, show ((m.toNat : Nat) : Int) = m by omega] at CF0
    have CF := Lib.hid CF0
    clear hf hok hg hp hq CF0 e1 e2 hs hm
    generalize fillL (nxF X) s.toNat m.toNat = L at *
    go_enter Tryd.func13, Tryd.ntmps13
    go_wp2_with fail
    refine CV.out.mono ?_
    rintro e w1 ⟨rfl, hb1⟩
    have HB1 := Lib.hid (HB.out.trans (hb1.mono HB.out.size))
    have HX1 := Lib.hid (HX.out.below hb1)
    have HR1 := Lib.hid (HR.out.below hb1)
    clear hb1 c1
    go_wp2_with fail
    refine (CS.out _).mono ?_
    rintro e w2 ⟨rfl, rfl⟩
    go_wp2_with fail
    refine (CM.out _).mono ?_
    rintro e w2 ⟨rfl, rfl⟩
    have c1 := HX1.out.one.1
    go_wp2_with fail
    refine (CF.out _ HR1.out).mono ?_
    rintro e w3 ⟨av, cv, rfl, ho, hb3⟩
    have HL := Lib.hid (ho.low HB1.out.size)
    have HB3 := Lib.hid (HB1.out.trans (hb3.mono HB1.out.size))
    clear hb3 ho c1
    go_wp2_with fail
    go_ret2
    exact ⟨av, cv, rfl, HL.out, HB3.out⟩
end Go.Proofs.YthapidnjioindaaDoor
namespace Go.Proofs.YthapidnjioindaaDoor
open Go.RowKit

def largR (X : List Int) (c : Int) : Option (List Bx) := if (goodR X && decide (1 ≤ c ∧ c ≤ 6)) = true then largeS (nxF X) c.toNat 8 else none
theorem largeS_len (V : Nat → Nat) (c : Nat) : ∀ s L, largeS V c s = some L → L.length = c
  | 0, L, h => by cases h
  | s + 1, L, h => by
    unfold largeS at h
    split at h
    · rename_i he
      cases h; exact he
    · exact largeS_len V c s L h
theorem largR_len {X : List Int} {c : Int} {L : List Bx} (h : largR X c = some L) : (L.length : Int) = c := by
  unfold largR at h
  split at h
  · rename_i hc
    simp only [Bool.and_eq_true, decide_eq_true_eq] at hc
    have := largeS_len _ _ _ _ h
    omega
  · cases h
theorem largR_le (X : List Int) (c : Int) : ((largR X c).getD []).length ≤ 40 := by
  unfold largR
  split
  · rename_i h
    simp only [Bool.and_eq_true, decide_eq_true_eq] at h
    cases hL : largeS (nxF X) c.toNat 8 with
    | none => simp
    | some L => have := largeS_len _ _ _ _ hL; simp; omega
  · simp
theorem fillR_at {X : List Int} (hg : goodR X = true) {k c : Nat} (hk1 : 1 ≤ k) (hk8 : k ≤ 8) (hc : c ≤ 40) : fillR X (k : Int) (c : Int) = fillL (nxF X) k c ∧ okF X (k : Int) (c : Int) = true := by
  have h1 : okF X (k : Int) (c : Int) = true := by
    unfold okF
    rw [hg, decide_eq_true (by omega), decide_eq_true (by omega)]; rfl
  refine ⟨?_, h1⟩
  unfold fillR
  rw [if_pos h1]
  simp
theorem fillR_bad {X : List Int} (hg : goodR X = false) (k c : Int) : fillR X k c = [] ∧ okF X k c = false := by
  have h1 : okF X k c = false := by unfold okF; rw [hg]; rfl
  exact ⟨by unfold fillR; rw [if_neg (by rw [h1]; decide)], h1⟩
theorem ansBx_none {W w' : World} {e : Ending} {ok : Bool} (hok : ok = false) (h : ∃ a cap, e = .returned (.tuple #[.slice a 0 cap, .bool ok]) ∧ OwnBx w' W.heap.size (.slice a 0 cap) [] ∧ Below W.heap.size W w') : AnsBx W [] false e w' := by
  subst hok; exact h
theorem isCnt6_any (x : Int) (w : World) (p : Bool) (hp : decide (1 ≤ x ∧ x ≤ 6) = p) :
    Calls Tryd.prog 62 #[.int .i64 x] w fun e w' => e = .returned (.bool p) ∧ w = w' := by
  obtain ⟨p1, e1⟩ : ∃ p, decide (1 ≤ x) = p := ⟨_, rfl⟩
  obtain ⟨p2, e2⟩ : ∃ p, decide (x ≤ 6) = p := ⟨_, rfl⟩
  have hR : (p1 && p2) = p := by rw [← hp, ← e1, ← e2]; by_cases h : 1 ≤ x <;> by_cases h' : x ≤ 6 <;> simp [h, h']
  clear hp
  subst hR
  cases p1
  all_goals
    go_enter Tryd.func62, Tryd.ntmps62
    go_wp2_with fail
    go_ret
    exact ⟨by first | rfl | simp, rfl⟩
set_option maxRecDepth 100000 in
set_option maxHeartbeats 4000000 in
theorem large_impl (X : List Int) (n : Nat) (a : Option Addr) (c : Nat) (k : Int) (w : World) (h : RdI w a n X) (hwf : WfI X) (hn : n ≤ 1048577) (hT : TzT w) :
    Calls Tryd.prog 18 #[.agg #[.slice a n c], .int .i64 k] w (AnsBx w ((largR X k).getD []) (largR X k).isSome) := by
  have XA := BoxF.new w [.slice a n c] 26
  have hb := (Below.refl _ w).alloc (Nat.le_refl _) (.cells #[.slice a n c] 26 (0, 0))
  obtain ⟨p, hp⟩ : ∃ p, decide (1 ≤ k ∧ k ≤ 6) = p := ⟨_, rfl⟩
  have CK := Lib.hid (fun W => isCnt6_any k W p hp)
  have HX := Lib.hid XA
  have HB := Lib.hid hb
  have HR := Lib.hid h
  have HT := Lib.hid hT
  cases p
  · have hl : largR X k = none := by unfold largR; rw [hp, Bool.and_false]; rfl
    rw [hl]
    clear h hwf XA hb hT hp
    go_enter Tryd.func18, Tryd.ntmps18
    go_wp2_with fail
    refine (CK.out _).mono ?_
    rintro e w1 ⟨rfl, rfl⟩
    go_wp2_with fail
    go_ret2
    exact ⟨none, 0, rfl, ownBx_nil _ _, HB.out⟩
  have hk := of_decide_eq_true hp
  obtain ⟨k, rfl⟩ : ∃ j : Nat, k = j := ⟨k.toNat, by omega⟩
  have CF := Lib.hid (fun (s : Nat) W (h : RdI W a n X) (hT : TzT W) => fillR_impl X n a c (s : Int) (k : Int) W h hwf hn hT)
  cases hg : goodR X
  · have hl : largR X k = none := by unfold largR; rw [hg]; rfl
    rw [hl]
    have HBad := Lib.hid (fun (s : Nat) => fillR_bad hg (s : Int) (k : Int))
    clear h hwf XA hb hT hp hl hg
    go_enter Tryd.func18, Tryd.ntmps18
    go_wp2_with fail
    refine (CK.out _).mono ?_
    rintro e w1 ⟨rfl, rfl⟩
    go_wp2_with fail
    go_loopw [6] (fun i wr => ∃ s : Nat, s ≤ 8 ∧ i = .int .i64 (s : Int) ∧ Hid (BoxF wr w.heap.size [.slice a n c] 26) ∧ Hid (Below w.heap.size w wr)) (fun i _ => (intOf i).toNat)
    case atStart => exact ⟨8, by omega, rfl, HX, HB⟩
    case round =>
      clear HX HB
      obtain ⟨s, hs, rfl, HX, HB⟩ := hrel
      by_cases h0 : 0 < s
      · have e0 : decide ((0 : Int) < (s : Int)) = true := decide_eq_true (by omega)
        have CFs := CF.out s wr (HR.out.below HB.out) (HT.out.below HB.out)
        rw [(HBad.out s).1, (HBad.out s).2] at CFs
        have CFs := Lib.hid CFs
        have c1 := HX.out.one.1
        go_wp2_with fail
        refine CFs.out.mono ?_
        rintro e w2 ⟨av, cv, rfl, _, hb2⟩
        have HX2 := Lib.hid (HX.out.below hb2)
        have HB2 := Lib.hid (HB.out.trans (hb2.mono HB.out.size))
        clear hb2 CFs c1
        go_wp2_with fail
        go_roundw
        case rel => exact ⟨s - 1, by omega, by congr 1; omega, HX2, HB2⟩
        case measure => simp [intOf]; omega
      · obtain rfl : s = 0 := by omega
        go_wp2_with fail
        go_ret2
        exact ⟨none, 0, rfl, ownBx_nil _ _, HB.out⟩
  · have hl : largR X k = largeS (nxF X) k 8 := by unfold largR; rw [hg, hp]; simp
    rw [hl]
    have HGo := Lib.hid (fun (s : Nat) (h1 : 1 ≤ s) (h8 : s ≤ 8) => fillR_at (X := X) hg h1 h8 (show k ≤ 40 by omega))
    clear h hwf XA hb hT hp hl hg
    go_enter Tryd.func18, Tryd.ntmps18
    go_wp2_with fail
    refine (CK.out _).mono ?_
    rintro e w1 ⟨rfl, rfl⟩
    go_wp2_with fail
    go_loopw [6] (fun i wr => ∃ s : Nat, s ≤ 8 ∧ i = .int .i64 (s : Int) ∧ Hid (BoxF wr w.heap.size [.slice a n c] 26) ∧ Hid (Below w.heap.size w wr) ∧ Hid (largeS (nxF X) k 8 = largeS (nxF X) k s)) (fun i _ => (intOf i).toNat)
    case atStart => exact ⟨8, by omega, rfl, HX, HB, Lib.hid rfl⟩
    case round =>
      clear HX HB
      obtain ⟨s, hs, rfl, HX, HB, HE⟩ := hrel
      by_cases h0 : 0 < s
      · have e0 : decide ((0 : Int) < (s : Int)) = true := decide_eq_true (by omega)
        have CFs := CF.out s wr (HR.out.below HB.out) (HT.out.below HB.out)
        rw [(HGo.out s h0 hs).1, (HGo.out s h0 hs).2] at CFs
        have CFs := Lib.hid CFs
        have HS := Lib.hid (show largeS (nxF X) k s = if (fillL (nxF X) s k).length = k then some (fillL (nxF X) s k) else largeS (nxF X) k (s - 1) by
          obtain ⟨j, rfl⟩ : ∃ j, s = j + 1 := ⟨s - 1, by omega⟩
          rfl)
        obtain ⟨L, hL⟩ : ∃ L, fillL (nxF X) s k = L := ⟨_, rfl⟩
        rw [hL] at CFs HS
        clear hL
        have c1 := HX.out.one.1
        by_cases hk2 : L.length = k
        · have HLS := Lib.hid (show largeS (nxF X) k 8 = some L by rw [HE.out, HS.out, if_pos hk2])
          have ek : ((L.length : Int) == (k : Int)) = true := by simp [hk2]
          clear HS HE hk2
          go_wp2_with fail
          refine CFs.out.mono ?_
          rintro e w2 ⟨av, cv, rfl, ho2, hb2⟩
          have HV2 := Lib.hid (ho2.low HB.out.size)
          have HB2 := Lib.hid (HB.out.trans (hb2.mono HB.out.size))
          clear hb2 ho2 CFs c1
          go_wp2_with fail
          go_ret2
          rw [HLS.out]
          exact ⟨av, cv, rfl, HV2.out, HB2.out⟩
        · have HLS := Lib.hid (show largeS (nxF X) k 8 = largeS (nxF X) k (s - 1) by rw [HE.out, HS.out, if_neg hk2])
          have ek : ((L.length : Int) == (k : Int)) = false := by rw [beq_eq_false_iff_ne]; omega
          clear HS HE hk2
          go_wp2_with fail
          refine CFs.out.mono ?_
          rintro e w2 ⟨av, cv, rfl, _, hb2⟩
          have HX2 := Lib.hid (HX.out.below hb2)
          have HB2 := Lib.hid (HB.out.trans (hb2.mono HB.out.size))
          clear hb2 CFs c1
          go_wp2_with fail
          go_roundw
          case rel => exact ⟨s - 1, by omega, by congr 1; omega, HX2, HB2, HLS⟩
          case measure => simp [intOf]; omega
      · obtain rfl : s = 0 := by omega
        have HN := Lib.hid (show largeS (nxF X) k 8 = none from HE.out)
        go_wp2_with fail
        go_ret2
        rw [HN.out]
        exact ⟨none, 0, rfl, ownBx_nil _ _, HB.out⟩
set_option maxRecDepth 100000 in
set_option maxHeartbeats 4000000 in
theorem l11Largest_any (X : List Int) (a : Option Addr) (c : Nat) (k : Nat) (w : World) (h : RdI w a 24 X) (hg : goodR X = true) (hk : k ≤ 40) :
    Calls Tryd.prog 63 #[.agg #[.slice a 24 c], .int .i64 (k : Int)] w (AnsBx w ((largeS (nxF X) k 8).getD []) (largeS (nxF X) k 8).isSome) := by
  have XA := BoxF.new w [.slice a 24 c] 26
  have hb := (Below.refl _ w).alloc (Nat.le_refl _) (.cells #[.slice a 24 c] 26 (0, 0))
  obtain ⟨e1, e2⟩ := good_nx hg
  have CF := Lib.hid (fun (s : Nat) W (h : RdI W a 24 X) (h1 : 1 ≤ s) (h8 : s ≤ 8) => l11Fill_any (nxF X) s k a c W (by rw [e1] at h; exact h) e2 h1 h8 hk)
  have HX := Lib.hid XA
  have HB := Lib.hid hb
  have HR := Lib.hid h
  clear h XA hb e1 e2 hg
  go_enter Tryd.func63, Tryd.ntmps63
  go_wp2_with fail
  go_loopw [6] (fun i wr => ∃ s : Nat, s ≤ 8 ∧ i = .int .i64 (s : Int) ∧ Hid (BoxF wr w.heap.size [.slice a 24 c] 26) ∧ Hid (Below w.heap.size w wr) ∧ Hid (largeS (nxF X) k 8 = largeS (nxF X) k s)) (fun i _ => (intOf i).toNat)
  case atStart => exact ⟨8, by omega, rfl, HX, HB, Lib.hid rfl⟩
  case round =>
    clear HX HB
    obtain ⟨s, hs, rfl, HX, HB, HE⟩ := hrel
    by_cases h0 : 0 < s
    · have e0 : decide ((0 : Int) < (s : Int)) = true := decide_eq_true (by omega)
      have CFs := Lib.hid (CF.out s wr (HR.out.below HB.out) h0 hs)
      have HS := Lib.hid (show largeS (nxF X) k s = if (fillL (nxF X) s k).length = k then some (fillL (nxF X) s k) else largeS (nxF X) k (s - 1) by
        obtain ⟨j, rfl⟩ : ∃ j, s = j + 1 := ⟨s - 1, by omega⟩
        rfl)
      obtain ⟨L, hL⟩ : ∃ L, fillL (nxF X) s k = L := ⟨_, rfl⟩
      rw [hL] at CFs HS
      clear hL
      have c1 := HX.out.one.1
      by_cases hk2 : L.length = k
      · have HLS := Lib.hid (show largeS (nxF X) k 8 = some L by rw [HE.out, HS.out, if_pos hk2])
        have ek : ((L.length : Int) == (k : Int)) = true := by simp [hk2]
        clear HS HE hk2
        go_wp2_with fail
        refine CFs.out.mono ?_
        rintro e w2 ⟨av, cv, rfl, ho2, hb2⟩
        have HV2 := Lib.hid (ho2.low HB.out.size)
        have HB2 := Lib.hid (HB.out.trans (hb2.mono HB.out.size))
        clear hb2 ho2 CFs c1
        go_wp2_with fail
        go_ret2
        rw [HLS.out]
        exact ⟨av, cv, rfl, HV2.out, HB2.out⟩
      · have HLS := Lib.hid (show largeS (nxF X) k 8 = largeS (nxF X) k (s - 1) by rw [HE.out, HS.out, if_neg hk2])
        have ek : ((L.length : Int) == (k : Int)) = false := by rw [beq_eq_false_iff_ne]; omega
        clear HS HE hk2
        go_wp2_with fail
        refine CFs.out.mono ?_
        rintro e w2 ⟨av, cv, rfl, _, hb2⟩
        have HX2 := Lib.hid (HX.out.below hb2)
        have HB2 := Lib.hid (HB.out.trans (hb2.mono HB.out.size))
        clear hb2 CFs c1
        go_wp2_with fail
        go_roundw
        case rel => exact ⟨s - 1, by omega, by congr 1; omega, HX2, HB2, HLS⟩
        case measure => simp [intOf]; omega
    · obtain rfl : s = 0 := by omega
      have HN := Lib.hid (show largeS (nxF X) k 8 = none from HE.out)
      go_wp2_with fail
      go_ret2
      rw [HN.out]
      exact ⟨_, 0, rfl, litBx _ _ HB.out.size, HB.out.alloc HB.out.size _⟩
set_option maxRecDepth 100000 in
set_option maxHeartbeats 4000000 in
theorem large_spec (X : List Int) (n : Nat) (a : Option Addr) (c : Nat) (k : Int) (w : World) (h : RdI w a n X) (hn : n ≤ 1048577) :
    Calls Tryd.prog 19 #[.agg #[.slice a n c], .int .i64 k] w (AnsBx w ((largR X k).getD []) (largR X k).isSome) := by
  have XA := BoxF.new w [.slice a n c] 26
  have hb := (Below.refl _ w).alloc (Nat.le_refl _) (.cells #[.slice a n c] 26 (0, 0))
  have c1 := XA.one.1
  obtain ⟨g, hg⟩ : ∃ g, goodR X = g := ⟨_, rfl⟩
  obtain ⟨p, hp⟩ : ∃ p, decide (1 ≤ k ∧ k ≤ 6) = p := ⟨_, rfl⟩
  have CV0 := good_spec X n a c _ (h.below hb) hn
  rw [hg] at CV0
  have CV := Lib.hid CV0
  have CK := Lib.hid (fun W => in_any k 1 6 W p hp)
  have HX := Lib.hid XA
  have HB := Lib.hid hb
  have HR := Lib.hid h
  clear h XA hb CV0
  cases g
  · have hl : largR X k = none := by unfold largR; rw [hg]; rfl
    rw [hl]
    clear hg hp hl
    go_enter Tryd.func19, Tryd.ntmps19
    go_wp2_with fail
    refine CV.out.mono ?_
    rintro e w1 ⟨rfl, hb1⟩
    have HB1 := Lib.hid (HB.out.trans (hb1.mono HB.out.size))
    clear hb1 c1
    go_wp2_with fail
    go_ret2
    exact ⟨_, 0, rfl, litBx _ _ HB1.out.size, HB1.out.alloc HB1.out.size _⟩
  cases p
  · have hl : largR X k = none := by unfold largR; rw [hp, Bool.and_false]; rfl
    rw [hl]
    clear hg hp hl
    go_enter Tryd.func19, Tryd.ntmps19
    go_wp2_with fail
    refine CV.out.mono ?_
    rintro e w1 ⟨rfl, hb1⟩
    have HB1 := Lib.hid (HB.out.trans (hb1.mono HB.out.size))
    clear hb1 c1
    go_wp2_with fail
    refine (CK.out _).mono ?_
    rintro e w2 ⟨rfl, rfl⟩
    go_wp2_with fail
    go_ret2
    exact ⟨_, 0, rfl, litBx _ _ HB1.out.size, HB1.out.alloc HB1.out.size _⟩
  have hk := of_decide_eq_true hp
  obtain ⟨k, rfl⟩ : ∃ j : Nat, k = j := ⟨k.toNat, by omega⟩
  have hl : largR X k = largeS (nxF X) k 8 := by unfold largR; rw [hg, hp]; simp
  have h24 : n = 24 := by rw [← HR.out.1]; exact goodR_len hg
  subst h24
  rw [hl]
  have CL := Lib.hid (fun W (h : RdI W a 24 X) => l11Largest_any X a c k W h hg (by omega))
  clear hg hp hl
  generalize largeS (nxF X) k 8 = Z at *
  go_enter Tryd.func19, Tryd.ntmps19
  go_wp2_with fail
  refine CV.out.mono ?_
  rintro e w1 ⟨rfl, hb1⟩
  have HB1 := Lib.hid (HB.out.trans (hb1.mono HB.out.size))
  have HX1 := Lib.hid (HX.out.below hb1)
  clear hb1 c1
  go_wp2_with fail
  refine (CK.out _).mono ?_
  rintro e w2 ⟨rfl, rfl⟩
  have c1 := HX1.out.one.1
  go_wp2_with fail
  refine (CL.out _ (HR.out.below HB1.out)).mono ?_
  rintro e w3 ⟨av, cv, rfl, ho, hb3⟩
  have HL := Lib.hid (ho.low HB1.out.size)
  have HB3 := Lib.hid (HB1.out.trans (hb3.mono HB1.out.size))
  clear hb3 ho c1
  go_wp2_with fail
  go_ret2
  exact ⟨av, cv, rfl, HL.out, HB3.out⟩
end Go.Proofs.YthapidnjioindaaDoor
