/- Contracts of chapter 10: parts and tinctures of cells of both sides, ordinaries with a line, the tests of the program's regions. -/
import Derived.Test.YtkhpgggaaldhhaaDoorC10P
namespace Go.Proofs.YtkhpgggaaldhhaaDoor
open Go.RowKit

theorem l3Good_dec (d l f s : Int) (W : World) (p : Bool) (hp : decide (FOk d l f s) = p) :
    Calls Tryd.prog 59 #[.agg #[.int .i64 d, .int .i64 l, .int .i64 f, .int .i64 s]] W fun e w' => e = .returned (.bool p) ∧ Below W.heap.size W w' := by
  cases p
  · exact l3Good_no d l f s W (of_decide_eq_false hp)
  · exact l3Good_yes d l f s W (of_decide_eq_true hp)
set_option maxHeartbeats 1000000 in
theorem fpart_spec (d l f s x y : Int) (w : World) :
    Calls Tryd.prog 33 #[.agg #[.int .i64 d, .int .i64 l, .int .i64 f, .int .i64 s], .int .i64 x, .int .i64 y] w fun e w' => e = .returned (.tuple #[.int .i64 (if okPart d l f s x y then partA d l x y else 0), .bool (okPart d l f s x y)]) ∧ Below w.heap.size w w' := by
  unfold okPart
  obtain ⟨p1, e1⟩ : ∃ p, decide (FOk d l f s) = p := ⟨_, rfl⟩
  obtain ⟨p2, e2⟩ : ∃ p, shZ x y = p := ⟨_, rfl⟩
  have CF := Lib.hid (fun W => l3Good_dec d l f s W p1 e1)
  have CS := fun W => l9In_any x y W
  rw [e1, e2]
  rw [e2] at CS
  have CS := Lib.hid CS
  have X0 := BoxF.new w [.int .i64 d, .int .i64 l, .int .i64 f, .int .i64 s] 30
  have hB0 := (Below.refl w.heap.size w).alloc (Nat.le_refl _) (.cells #[.int .i64 d, .int .i64 l, .int .i64 f, .int .i64 s] 30 (0, 0))
  have HX0 := Lib.hid X0
  have HB0 := Lib.hid hB0
  clear X0 hB0
  cases p1
  · clear e1 e2
    go_enter Tryd.func33, Tryd.ntmps33
    go_wp2_with fail
    refine (CF.out _).mono ?_
    rintro e w1 ⟨rfl, hb1⟩
    have HB1 := Lib.hid (HB0.out.trans (hb1.mono HB0.out.size))
    clear hb1
    go_wp2_with fail
    go_ret2
    exact ⟨by first | rfl | simp, HB1.out⟩
  cases p2
  · clear e1 e2
    go_enter Tryd.func33, Tryd.ntmps33
    go_wp2_with fail
    refine (CF.out _).mono ?_
    rintro e w1 ⟨rfl, hb1⟩
    have HB1 := Lib.hid (HB0.out.trans (hb1.mono HB0.out.size))
    clear hb1
    go_wp2_with fail
    refine (CS.out _).mono ?_
    rintro e w2 ⟨rfl, rfl⟩
    go_wp2_with fail
    go_ret2
    exact ⟨by first | rfl | simp, HB1.out⟩
  obtain ⟨hd, hl, _, _⟩ := of_decide_eq_true e1
  obtain ⟨a, b, rfl, rfl, ha, hb⟩ := shZ_out e2
  have CP := fun W => l10Part_any d l f s a b W ha hb hd.1 hd.2 hl.1 hl.2
  rw [show partA d l (a : Int) (b : Int) = (if lnFirst d l a b then 0 else 1) from rfl]
  simp only [Bool.and_self, if_true]
  obtain ⟨v, hv⟩ : ∃ v : Int, (if lnFirst d l a b = true then (0 : Int) else 1) = v := ⟨_, rfl⟩
  rw [hv] at CP ⊢
  have CP := Lib.hid CP
  clear e1 e2 hd hl hv
  go_enter Tryd.func33, Tryd.ntmps33
  go_wp2_with fail
  refine (CF.out _).mono ?_
  rintro e w1 ⟨rfl, hb1⟩
  have HB1 := Lib.hid (HB0.out.trans (hb1.mono HB0.out.size))
  have HX1 := Lib.hid (HX0.out.below hb1)
  clear hb1
  have d0 := HX1.out.at 0
  have d1 := HX1.out.at 1
  have d2 := HX1.out.at 2
  have d3 := HX1.out.at 3
  simp only [List.getElem?_cons_zero, List.getElem?_cons_succ] at d0 d1 d2 d3
  go_wp2_with fail
  refine (CS.out _).mono ?_
  rintro e w2 ⟨rfl, rfl⟩
  go_wp2_with fail
  refine (CP.out _).mono ?_
  rintro e w2 ⟨rfl, hb2⟩
  have HB2 := Lib.hid (HB1.out.trans (hb2.mono HB1.out.size))
  clear hb2 d0 d1 d2 d3
  go_wp2_with fail
  go_ret2
  exact ⟨rfl, HB2.out⟩
/-- The tincture of a cell. -/
def tincA (d l f s x y : Int) : Int := if okPart d l f s x y then (if partA d l x y = 0 then f else s) else 0
set_option maxHeartbeats 1000000 in
theorem ftinc_impl (d l f s x y : Int) (w : World) (hT : OffsLie w) :
    Calls Tryd.prog 30 #[.agg #[.int .i64 d, .int .i64 l, .int .i64 f, .int .i64 s], .int .i64 x, .int .i64 y] w fun e w' => e = .returned (.tuple #[.int .i64 (tincA d l f s x y), .bool (okPart d l f s x y)]) ∧ Below w.heap.size w w' := by
  have CF := fun W (h : Below w.heap.size w W) => fpart_impl d l f s x y W (hT.below h)
  unfold tincA
  have X0 := BoxF.new w [.int .i64 d, .int .i64 l, .int .i64 f, .int .i64 s] 30
  have hB0 := (Below.refl w.heap.size w).alloc (Nat.le_refl _) (.cells #[.int .i64 d, .int .i64 l, .int .i64 f, .int .i64 s] 30 (0, 0))
  have HX0 := Lib.hid X0
  have HB0 := Lib.hid hB0
  clear X0 hB0 hT
  obtain ⟨p, hp⟩ : ∃ p, okPart d l f s x y = p := ⟨_, rfl⟩
  obtain ⟨v, hv⟩ : ∃ v, partA d l x y = v := ⟨_, rfl⟩
  have h01 : v = 0 ∨ v = 1 := by rw [← hv]; unfold partA; split <;> simp
  rw [hp, hv] at CF
  rw [hp, hv]
  clear hp hv
  cases p
  · simp only [Bool.false_eq_true, if_false] at CF ⊢
    have CF := Lib.hid CF
    go_enter Tryd.func30, Tryd.ntmps30
    go_wp2_with fail
    refine (CF.out _ HB0.out).mono ?_
    rintro e w1 ⟨rfl, hb1⟩
    have HB1 := Lib.hid (HB0.out.trans (hb1.mono HB0.out.size))
    clear hb1
    go_wp2_with fail
    go_ret2
    exact ⟨by first | rfl | simp, HB1.out⟩
  · simp only [if_true] at CF ⊢
    have CF := Lib.hid CF
    rcases h01 with rfl | rfl
    all_goals
      go_enter Tryd.func30, Tryd.ntmps30
      go_wp2_with fail
      refine (CF.out _ HB0.out).mono ?_
      rintro e w1 ⟨rfl, hb1⟩
      have HB1 := Lib.hid (HB0.out.trans (hb1.mono HB0.out.size))
      have HX1 := Lib.hid (HX0.out.below hb1)
      clear hb1
      have d2 := HX1.out.at 2
      have d3 := HX1.out.at 3
      simp only [List.getElem?_cons_zero, List.getElem?_cons_succ] at d2 d3
      go_wp2_with fail
      go_ret2
      exact ⟨by first | rfl | simp, HB1.out⟩
set_option maxHeartbeats 1000000 in
theorem ftinc_spec (d l f s x y : Int) (w : World) :
    Calls Tryd.prog 32 #[.agg #[.int .i64 d, .int .i64 l, .int .i64 f, .int .i64 s], .int .i64 x, .int .i64 y] w fun e w' => e = .returned (.tuple #[.int .i64 (tincA d l f s x y), .bool (okPart d l f s x y)]) ∧ Below w.heap.size w w' := by
  unfold tincA okPart
  obtain ⟨p1, e1⟩ : ∃ p, decide (FOk d l f s) = p := ⟨_, rfl⟩
  obtain ⟨p2, e2⟩ : ∃ p, shZ x y = p := ⟨_, rfl⟩
  have CF := Lib.hid (fun W => l3Good_dec d l f s W p1 e1)
  have CS := fun W => l9In_any x y W
  rw [e1, e2]
  rw [e2] at CS
  have CS := Lib.hid CS
  have X0 := BoxF.new w [.int .i64 d, .int .i64 l, .int .i64 f, .int .i64 s] 30
  have hB0 := (Below.refl w.heap.size w).alloc (Nat.le_refl _) (.cells #[.int .i64 d, .int .i64 l, .int .i64 f, .int .i64 s] 30 (0, 0))
  have HX0 := Lib.hid X0
  have HB0 := Lib.hid hB0
  clear X0 hB0
  cases p1
  · clear e1 e2
    go_enter Tryd.func32, Tryd.ntmps32
    go_wp2_with fail
    refine (CF.out _).mono ?_
    rintro e w1 ⟨rfl, hb1⟩
    have HB1 := Lib.hid (HB0.out.trans (hb1.mono HB0.out.size))
    clear hb1
    go_wp2_with fail
    go_ret2
    exact ⟨by first | rfl | simp, HB1.out⟩
  cases p2
  · clear e1 e2
    go_enter Tryd.func32, Tryd.ntmps32
    go_wp2_with fail
    refine (CF.out _).mono ?_
    rintro e w1 ⟨rfl, hb1⟩
    have HB1 := Lib.hid (HB0.out.trans (hb1.mono HB0.out.size))
    clear hb1
    go_wp2_with fail
    refine (CS.out _).mono ?_
    rintro e w2 ⟨rfl, rfl⟩
    go_wp2_with fail
    go_ret2
    exact ⟨by first | rfl | simp, HB1.out⟩
  obtain ⟨hd, hl, _, _⟩ := of_decide_eq_true e1
  obtain ⟨a, b, rfl, rfl, ha, hb⟩ := shZ_out e2
  have CP := fun W => l10Part_any d l f s a b W ha hb hd.1 hd.2 hl.1 hl.2
  rw [show partA d l (a : Int) (b : Int) = (if lnFirst d l a b then 0 else 1) from rfl]
  simp only [Bool.and_self, if_true]
  obtain ⟨v, hv⟩ : ∃ v : Int, (if lnFirst d l a b = true then (0 : Int) else 1) = v := ⟨_, rfl⟩
  have h01 : v = 0 ∨ v = 1 := by rw [← hv]; split <;> simp
  rw [hv] at CP ⊢
  have CP := Lib.hid CP
  clear e1 e2 hd hl hv
  rcases h01 with rfl | rfl
  all_goals
    go_enter Tryd.func32, Tryd.ntmps32
    go_wp2_with fail
    refine (CF.out _).mono ?_
    rintro e w1 ⟨rfl, hb1⟩
    have HB1 := Lib.hid (HB0.out.trans (hb1.mono HB0.out.size))
    have HX1 := Lib.hid (HX0.out.below hb1)
    clear hb1
    have d0 := HX1.out.at 0
    have d1 := HX1.out.at 1
    have d2 := HX1.out.at 2
    have d3 := HX1.out.at 3
    simp only [List.getElem?_cons_zero, List.getElem?_cons_succ] at d0 d1 d2 d3
    go_wp2_with fail
    refine (CS.out _).mono ?_
    rintro e w2 ⟨rfl, rfl⟩
    go_wp2_with fail
    refine (CP.out _).mono ?_
    rintro e w2 ⟨rfl, hb2⟩
    have HB2 := Lib.hid (HB1.out.trans (hb2.mono HB1.out.size))
    have HX2 := Lib.hid (HX1.out.below hb2)
    clear hb2 d0 d1 d2 d3
    have d2 := HX2.out.at 2
    have d3 := HX2.out.at 3
    simp only [List.getElem?_cons_zero, List.getElem?_cons_succ] at d2 d3
    go_wp2_with fail
    go_ret2
    exact ⟨by first | rfl | simp, HB2.out⟩
end Go.Proofs.YtkhpgggaaldhhaaDoor
