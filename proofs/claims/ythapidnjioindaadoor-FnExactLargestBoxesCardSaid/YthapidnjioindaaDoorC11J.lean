/- Contracts: FillRegion and LargestBoxes of both sides. -/
import Derived.Test.YthapidnjioindaaDoorC11I
namespace Go.Proofs.YthapidnjioindaaDoor
open Go.RowKit

def nxF (X : List Int) : Nat → Nat := fun y => (X.getD y 0).toNat
theorem good_nx {X : List Int} (h : goodR X = true) : X = rowsOfR (nxF X) ∧ GoodF (nxF X) := by
  obtain ⟨V, hX, hV⟩ := good_out h
  have q : ∀ y, y < 24 → nxF X y = V y := fun y hy => by unfold nxF; rw [hX, rowsOfR_getD V hy]; simp
  refine ⟨hX.trans ?_, fun y hy => by rw [q y hy]; exact hV y hy⟩
  unfold rowsOfR
  apply List.map_congr_left
  intro j hj
  rw [List.mem_range] at hj
  rw [← q j hj]
/-- The filling is asked rightly. -/
def okF (X : List Int) (s m : Int) : Bool := goodR X && (decide (1 ≤ s ∧ s ≤ 8) && decide (0 ≤ m ∧ m ≤ 40))
def fillR (X : List Int) (s m : Int) : List Bx := if okF X s m = true then fillL (nxF X) s.toNat m.toNat else []
theorem fillR_le (X : List Int) (s m : Int) : (fillR X s m).length ≤ 40 := by
  unfold fillR
  split
  · rename_i h
    unfold okF at h
    simp only [Bool.and_eq_true, decide_eq_true_eq] at h
    have := fillL_le (m := m.toNat) (show s.toNat ≤ 8 by omega) (good_nx h.1).2
    omega
  · simp
theorem litBx (w : World) (B : Nat) (h : B ≤ w.heap.size) : OwnBx (w.alloc (.cells #[] 36 (0, 0))) B (.slice (some ⟨w.heap.size, 0, none⟩) 0 0) [] :=
  World.ownsRow_lit (e := 36) (size := 3) w #[] 0 h (by unfold maxLen; omega) rfl
set_option maxRecDepth 100000 in
set_option maxHeartbeats 4000000 in
theorem fillR_impl (X : List Int) (n : Nat) (a : Option Addr) (c : Nat) (s m : Int) (w : World) (h : RdI w a n X) (hwf : WfI X) (hn : n ≤ 1048577) (hT : TzT w) :
    Calls Tryd.prog 12 #[.agg #[.slice a n c], .int .i64 s, .int .i64 m] w (AnsBx w (fillR X s m) (okF X s m)) := by
  by_cases hok : okF X s m = true
  · have hf : fillR X s m = fillL (nxF X) s.toNat m.toNat := if_pos hok
    rw [hf, hok]
    unfold okF at hok
    simp only [Bool.and_eq_true, decide_eq_true_eq] at hok
    obtain ⟨hg, hs, hm⟩ := hok
    have h24 : n = 24 := by rw [← h.1]; exact goodR_len hg
    subst h24
    obtain ⟨e1, e2⟩ := good_nx hg
    rw [e1] at h
    have := fill_impl (nxF X) s.toNat m.toNat a c w h e2 (by omega) (by omega) (by omega) hT
    rwa [show ((s.toNat : Nat) : Int) = s by omega, show ((m.toNat : Nat) : Int) = m by omega] at this
  have hok := eq_false_of_ne_true hok
  have hf : fillR X s m = [] := if_neg (by rw [hok]; decide)
  rw [hf, hok]
  have XA := BoxF.new w [.slice a n c] 26
  have hb := (Below.refl _ w).alloc (Nat.le_refl _) (.cells #[.slice a n c] 26 (0, 0))
  have c1 := XA.one.1
  obtain ⟨g, hg⟩ : ∃ g, goodR X = g := ⟨_, rfl⟩
  obtain ⟨p, hp⟩ : ∃ p, decide (1 ≤ s ∧ s ≤ 8) = p := ⟨_, rfl⟩
  have CV0 := valid_impl X n a c _ (h.below hb) hwf hn
  rw [hg] at CV0
  have CV := Lib.hid CV0
  have CS := Lib.hid (fun W => boxSize_any s W p hp)
  have HB := Lib.hid hb
  unfold okF at hok
  rw [hg, hp] at hok
  clear h hwf XA hb hT CV0 hg hf
  cases g
  · clear hp hok
    go_enter Tryd.func12, Tryd.ntmps12
    go_wp2_with fail
    refine CV.out.mono ?_
    rintro e w1 ⟨rfl, hb1⟩
    have HB1 := Lib.hid (HB.out.trans (hb1.mono HB.out.size))
    clear hb1 c1
    go_wp2_with fail
    go_ret2
    exact ⟨none, 0, rfl, ownBx_nil _ _, HB1.out⟩
  cases p
  · clear hp hok
    go_enter Tryd.func12, Tryd.ntmps12
    go_wp2_with fail
    refine CV.out.mono ?_
    rintro e w1 ⟨rfl, hb1⟩
    have HB1 := Lib.hid (HB.out.trans (hb1.mono HB.out.size))
    clear hb1 c1
    go_wp2_with fail
    refine (CS.out _).mono ?_
    rintro e w2 ⟨rfl, rfl⟩
    go_wp2_with fail
    go_ret2
    exact ⟨none, 0, rfl, ownBx_nil _ _, HB1.out⟩
  simp only [Bool.true_and, decide_eq_false_iff_not] at hok
  clear hp
  by_cases hm0 : m < 0
  · have em0 : decide (m < 0) = true := decide_eq_true hm0
    go_enter Tryd.func12, Tryd.ntmps12
    go_wp2_with fail
    refine CV.out.mono ?_
    rintro e w1 ⟨rfl, hb1⟩
    have HB1 := Lib.hid (HB.out.trans (hb1.mono HB.out.size))
    clear hb1 c1
    go_wp2_with fail
    refine (CS.out _).mono ?_
    rintro e w2 ⟨rfl, rfl⟩
    go_wp2_with fail
    go_ret2
    exact ⟨none, 0, rfl, ownBx_nil _ _, HB1.out⟩
  · have em0 : decide (m < 0) = false := decide_eq_false hm0
    have em1 : decide (40 < m) = true := decide_eq_true (by omega)
    go_enter Tryd.func12, Tryd.ntmps12
    go_wp2_with fail
    refine CV.out.mono ?_
    rintro e w1 ⟨rfl, hb1⟩
    have HB1 := Lib.hid (HB.out.trans (hb1.mono HB.out.size))
    clear hb1 c1
    go_wp2_with fail
    refine (CS.out _).mono ?_
    rintro e w2 ⟨rfl, rfl⟩
    go_wp2_with fail
    go_ret2
    exact ⟨none, 0, rfl, ownBx_nil _ _, HB1.out⟩
set_option maxRecDepth 100000 in
set_option maxHeartbeats 4000000 in
theorem fillR_spec (X : List Int) (n : Nat) (a : Option Addr) (c : Nat) (s m : Int) (w : World) (h : RdI w a n X) (hn : n ≤ 1048577) :
    Calls Tryd.prog 13 #[.agg #[.slice a n c], .int .i64 s, .int .i64 m] w (AnsBx w (fillR X s m) (okF X s m)) := by
  have XA := BoxF.new w [.slice a n c] 26
  have hb := (Below.refl _ w).alloc (Nat.le_refl _) (.cells #[.slice a n c] 26 (0, 0))
  have c1 := XA.one.1
  obtain ⟨g, hg⟩ : ∃ g, goodR X = g := ⟨_, rfl⟩
  obtain ⟨p, hp⟩ : ∃ p, decide (1 ≤ s ∧ s ≤ 8) = p := ⟨_, rfl⟩
  obtain ⟨q, hq⟩ : ∃ q, decide (0 ≤ m ∧ m ≤ 40) = q := ⟨_, rfl⟩
  have CV0 := good_spec X n a c _ (h.below hb) hn
  rw [hg] at CV0
  have CV := Lib.hid CV0
  have CS := Lib.hid (fun W => in_any s 1 8 W p hp)
  have CM := Lib.hid (fun W => in_any m 0 40 W q hq)
  have HB := Lib.hid hb
  have HX := Lib.hid XA
  have HR := Lib.hid (h.below hb)
  have hok : okF X s m = (g && (p && q)) := by unfold okF; rw [hg, hp, hq]
  clear h XA hb CV0
  cases hall : (g && (p && q))
  · have hf : fillR X s m = [] := if_neg (by rw [hok, hall]; decide)
    rw [hf, hok, hall]
    clear hf hok hg hp hq
    cases g
    · clear hall
      go_enter Tryd.func13, Tryd.ntmps13
      go_wp2_with fail
      refine CV.out.mono ?_
      rintro e w1 ⟨rfl, hb1⟩
      have HB1 := Lib.hid (HB.out.trans (hb1.mono HB.out.size))
      clear hb1 c1
      go_wp2_with fail
      go_ret2
      exact ⟨_, 0, rfl, litBx _ _ HB1.out.size, HB1.out.alloc HB1.out.size _⟩
    cases p
    · clear hall
      go_enter Tryd.func13, Tryd.ntmps13
      go_wp2_with fail
      refine CV.out.mono ?_
      rintro e w1 ⟨rfl, hb1⟩
      have HB1 := Lib.hid (HB.out.trans (hb1.mono HB.out.size))
      clear hb1 c1
      go_wp2_with fail
      refine (CS.out _).mono ?_
      rintro e w2 ⟨rfl, rfl⟩
      go_wp2_with fail
      go_ret2
      exact ⟨_, 0, rfl, litBx _ _ HB1.out.size, HB1.out.alloc HB1.out.size _⟩
    · obtain rfl : q = false := by simpa using hall
      clear hall
      go_enter Tryd.func13, Tryd.ntmps13
      go_wp2_with fail
      refine CV.out.mono ?_
      rintro e w1 ⟨rfl, hb1⟩
      have HB1 := Lib.hid (HB.out.trans (hb1.mono HB.out.size))
      clear hb1 c1
      go_wp2_with fail
      refine (CS.out _).mono ?_
      rintro e w2 ⟨rfl, rfl⟩
      go_wp2_with fail
      refine (CM.out _).mono ?_
      rintro e w2 ⟨rfl, rfl⟩
      go_wp2_with fail
      go_ret2
      exact ⟨_, 0, rfl, litBx _ _ HB1.out.size, HB1.out.alloc HB1.out.size _⟩
  · have hf : fillR X s m = fillL (nxF X) s.toNat m.toNat := if_pos (by rw [hok, hall])
    rw [hf, hok, hall]
    simp only [Bool.and_eq_true] at hall
    obtain ⟨rfl, rfl, rfl⟩ := hall
    have hs := of_decide_eq_true hp
    have hm := of_decide_eq_true hq
    have h24 : n = 24 := by rw [← HR.out.1]; exact goodR_len hg
    subst h24
    obtain ⟨e1, e2⟩ := good_nx hg
    have CF0 := fun W (h : RdI W a 24 X) => l11Fill_any (nxF X) s.toNat m.toNat a c W (by rw [e1] at h; exact h) e2 (by omega) (by omega) (by omega)
    rw [show ((s.toNat : Nat) : Int) = s by omega, show ((m.toNat : Nat) : Int) = m by omega] at CF0
    have CF := Lib.hid CF0
    clear hf hok hg hp hq CF0 e1 e2 hs hm
    generalize fillL (nxF X) s.toNat m.toNat = L at *
    go_enter Tryd.func13, Tryd.ntmps13
    go_wp2_with fail
    refine CV.out.mono ?_
    rintro e w1 ⟨rfl, hb1⟩
    have HB1 := Lib.hid (HB.out.trans (hb1.mono HB.out.size))
    have HX1 := Lib.hid (HX.out.below hb1)
    have HR1 := Lib.hid (HR.out.below hb1)
    clear hb1 c1
    go_wp2_with fail
    refine (CS.out _).mono ?_
    rintro e w2 ⟨rfl, rfl⟩
    go_wp2_with fail
    refine (CM.out _).mono ?_
    rintro e w2 ⟨rfl, rfl⟩
    have c1 := HX1.out.one.1
    go_wp2_with fail
    refine (CF.out _ HR1.out).mono ?_
    rintro e w3 ⟨av, cv, rfl, ho, hb3⟩
    have HL := Lib.hid (ho.low HB1.out.size)
    have HB3 := Lib.hid (HB1.out.trans (hb3.mono HB1.out.size))
    clear hb3 ho c1
    go_wp2_with fail
    go_ret2
    exact ⟨av, cv, rfl, HL.out, HB3.out⟩
end Go.Proofs.YthapidnjioindaaDoor
