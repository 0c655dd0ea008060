/- Contracts: the model's FieldDifferences and SameParts. -/
import Derived.Test.YtmogabnngphfgaaFDiff
namespace Go.Proofs.Ytmogabnngphfgaa
open Go.RowKit

set_option maxHeartbeats 1000000 in
theorem fieldDiff_spec (d l f s d' l' f' s' : Int) (w : World) (h : FOk d l f s) (h' : FOk d' l' f' s') :
    Calls Try.prog 14 #[.agg #[.int .i64 d, .int .i64 l, .int .i64 f, .int .i64 s], .agg #[.int .i64 d', .int .i64 l', .int .i64 f', .int .i64 s']] w fun e w' => e = .returned (.tuple #[.int .i64 (fdif d l f s d' l' f' s'), .bool true]) ∧ Below w.heap.size w w' := by
  have c1 := fun W => l3Good_yes d l f s W h
  have c2 := fun W => l3Good_yes d' l' f' s' W h'
  have c3 := fun W => l3Differences_any d l f s d' l' f' s' W
  clear h h'
  go_enter Try.func14, Try.ntmps14
  go_wp2_with fail
  refine (c1 _).mono ?_
  rintro e w1 ⟨rfl, hb⟩
  obtain ⟨hc, hf⟩ := bcell hb
  have hz0 : w.heap.size < w1.heap.size := by have := hb.size; simp at this; omega
  have hz1 : w.heap.size + 1 < w1.heap.size := by have := hb.size; simp at this; omega
  have B1 := box2 hb
  clear hb c1
  go_wp2_with fail
  refine (c2 _).mono ?_
  rintro e w2 ⟨rfl, hb⟩
  obtain ⟨hc2, hf2⟩ := bcell hb
  have B2 := Lib.hid (B1.trans (hb.mono B1.size))
  clear hb c2 B1
  go_wp2_with fail
  refine (c3 _).mono ?_
  rintro e w3 ⟨rfl, hb⟩
  have B3 := Lib.hid (B2.out.trans (hb.mono B2.out.size))
  clear hb c3 hc hf hc2 hf2
  go_wp2_with fail
  go_ret2
  exact ⟨rfl, B3.out⟩
theorem fieldDiff_spec_no (d l f s d' l' f' s' : Int) (w : World) (h : ¬ (FOk d l f s ∧ FOk d' l' f' s')) :
    Calls Try.prog 14 #[.agg #[.int .i64 d, .int .i64 l, .int .i64 f, .int .i64 s], .agg #[.int .i64 d', .int .i64 l', .int .i64 f', .int .i64 s']] w fun e w' => e = .returned (.tuple #[.int .i64 0, .bool false]) ∧ Below w.heap.size w w' := by
  by_cases h1 : FOk d l f s
  · have c1 := fun W => l3Good_yes d l f s W h1
    have c2 := fun W => l3Good_no d' l' f' s' W (fun e => h ⟨h1, e⟩)
    clear h h1
    go_enter Try.func14, Try.ntmps14
    go_wp2_with fail
    refine (c1 _).mono ?_
    rintro e w1 ⟨rfl, hb⟩
    obtain ⟨hc, hf⟩ := bcell hb
    have hz0 : w.heap.size < w1.heap.size := by have := hb.size; simp at this; omega
    have hz1 : w.heap.size + 1 < w1.heap.size := by have := hb.size; simp at this; omega
    have B1 := box2 hb
    clear hb c1
    go_wp2_with fail
    refine (c2 _).mono ?_
    rintro e w2 ⟨rfl, hb⟩
    have B2 := Lib.hid (B1.trans (hb.mono B1.size))
    clear hb c2 B1 hc hf
    go_wp2_with fail
    go_ret2
    exact ⟨rfl, B2.out⟩
  · have c1 := fun W => l3Good_no d l f s W h1
    clear h h1
    go_enter Try.func14, Try.ntmps14
    go_wp2_with fail
    refine (c1 _).mono ?_
    rintro e w1 ⟨rfl, hb⟩
    have B1 := Lib.hid (box2 hb)
    clear hb c1
    go_wp2_with fail
    go_ret2
    exact ⟨rfl, B1.out⟩
/-- The same tinctures in any order. -/
def samePB (X Y : List Int) : Bool := X.all (fun x => Y.contains x) && decide (X.length = Y.length)
theorem samePB_miss {X Y : List Int} {k : Nat} {x : Int} (hx : X[k]? = some x) (h : Y.contains x = false) : samePB X Y = false := by
  have : X.all (fun x => Y.contains x) = false := by
    rw [Bool.eq_false_iff]
    intro e
    have := List.all_eq_true.1 e x (List.mem_of_getElem? hx)
    rw [h] at this; cases this
  unfold samePB; rw [this]; rfl
theorem samePB_end {X Y : List Int} (h : X.take X.length |>.all fun x => Y.contains x) : samePB X Y = decide (X.length = Y.length) := by
  rw [List.take_length] at h
  unfold samePB; rw [h]; rfl
theorem all_in_succ {X Y : List Int} {k : Nat} {x : Int} (hx : X[k]? = some x) (h : (X.take k).all (fun x => Y.contains x) = true) (hg : Y.contains x = true) : (X.take (k + 1)).all (fun x => Y.contains x) = true := by
  rw [take_succ' hx, List.all_append, h]
  simp only [List.all_cons, List.all_nil, Bool.and_true, Bool.true_and]
  exact hg
set_option maxHeartbeats 4000000 in
theorem same_spec (d l f s d' l' f' s' : Int) (w : World) (h : FOk d l f s) (h' : FOk d' l' f' s') :
    Calls Try.prog 30 #[.agg #[.int .i64 d, .int .i64 l, .int .i64 f, .int .i64 s], .agg #[.int .i64 d', .int .i64 l', .int .i64 f', .int .i64 s']] w fun e w' => e = .returned (.tuple #[.bool (samePB (tincL d f s) (tincL d' f' s')), .bool true]) ∧ Below w.heap.size w w' := by
  have c1 := fun W => l3Good_yes d l f s W h
  have c2 := fun W => l3Good_yes d' l' f' s' W h'
  have ca := fun W => l3Tinctures_any d l f s W
  have cb := fun W => l3Tinctures_any d' l' f' s' W
  have hX := tincL_len d f s
  have hY := tincL_len d' f' s'
  clear h h'
  have hX0 : 1 ≤ (tincL d f s).length := by unfold tincL; split <;> simp
  obtain ⟨r, hr⟩ : ∃ r, samePB (tincL d f s) (tincL d' f' s') = r := ⟨_, rfl⟩
  rw [hr]
  unfold AnsL at ca cb
  generalize tincL d f s = X at *
  generalize tincL d' f' s' = Y at *
  obtain ⟨n, hn⟩ : ∃ n, X.length = n := ⟨_, rfl⟩
  obtain ⟨m, hm⟩ : ∃ m, Y.length = m := ⟨_, rfl⟩
  rw [hn] at ca hX hX0
  rw [hm] at cb hY
  have HXn := Lib.hid hn
  have HYm := Lib.hid hm
  have CA := Lib.hid ca
  have CB := Lib.hid cb
  have HR := Lib.hid hr
  clear ca cb hn hm hr
  go_enter Try.func30, Try.ntmps30
  go_wp2_with fail
  refine (c1 _).mono ?_
  rintro e w1 ⟨rfl, hb⟩
  have K1 := ((Box.new w [.int .i64 d, .int .i64 l, .int .i64 f, .int .i64 s] 25).alloc (.cells #[.int .i64 d', .int .i64 l', .int .i64 f', .int .i64 s'] 25)).below hb
  have K2 := (Box.new (w.alloc (.cells #[.int .i64 d, .int .i64 l, .int .i64 f, .int .i64 s] 25)) [.int .i64 d', .int .i64 l', .int .i64 f', .int .i64 s'] 25).below hb
  rw [World.size_alloc] at K2
  have KK := Lib.hid K1
  obtain ⟨q0, q1, q2, q3⟩ := (⟨K2.2 0 _ rfl, K2.2 1 _ rfl, K2.2 2 _ rfl, K2.2 3 _ rfl⟩ : _ ∧ _ ∧ _ ∧ _)
  have KK2 := Lib.hid K2
  clear K1 K2
  have hz0 : w.heap.size < w1.heap.size := by have := hb.size; simp at this; omega
  have hz1 : w.heap.size + 1 < w1.heap.size := by have := hb.size; simp at this; omega
  have B1 := box2 hb
  clear hb c1
  go_wp2_with fail
  refine (c2 _).mono ?_
  rintro e w2 ⟨rfl, hb⟩
  have K1 := KK.out.below hb
  have K2 := KK2.out.below hb
  clear q0 q1 q2 q3
  obtain ⟨p0, p1, p2, p3⟩ := (⟨K1.2 0 _ rfl, K1.2 1 _ rfl, K1.2 2 _ rfl, K1.2 3 _ rfl⟩ : _ ∧ _ ∧ _ ∧ _)
  obtain ⟨q0, q1, q2, q3⟩ := (⟨K2.2 0 _ rfl, K2.2 1 _ rfl, K2.2 2 _ rfl, K2.2 3 _ rfl⟩ : _ ∧ _ ∧ _ ∧ _)
  have KK3 := Lib.hid K2
  clear K1 K2 KK KK2
  have hy0 : w.heap.size < w2.heap.size := by have := hb.size; omega
  have hy1 : w.heap.size + 1 < w2.heap.size := by have := hb.size; omega
  have B2 := Lib.hid (B1.trans (hb.mono B1.size))
  clear hb c2 B1
  go_wp2_with fail
  go_region_with (first
    | (go_at_call 39; (with_reducible refine (CA.out _).mono ?_); rintro e w3 ⟨xa, ka, rfl, hoa, hba⟩; have K3 := KK3.out.below (show Below w2.heap.size w2 w3 from ⟨hba.os, hba.tape, hba.output, hba.size, hba.block⟩); have r0 := K3.2 0 _ rfl; have r1 := K3.2 1 _ rfl; have r2 := K3.2 2 _ rfl; have r3 := K3.2 3 _ rfl; clear K3)
    | (go_at_call 39; (with_reducible refine (CB.out _).mono ?_); rintro e w4 ⟨xb, kb, rfl, hob, hbb⟩))
  all_goals
    have hA : Below w2.heap.size w2 w3 := ⟨hba.os, hba.tape, hba.output, hba.size, hba.block⟩
    have hB : Below w3.heap.size w3 w4 := ⟨hbb.os, hbb.tape, hbb.output, hbb.size, hbb.block⟩
    have B4 := Lib.hid ((B2.out.trans (hA.mono B2.out.size)).trans (hB.mono (Nat.le_trans B2.out.size hA.size)))
    have RA := Lib.hid (hoa.rd.below hB)
    have RB := Lib.hid hob.rd
    have LH := Lib.hid (fun x => l1Has_any Y x m xb kb w4 hob.rd (by omega))
    clear hba hbb hA hB hoa hob p0 p1 p2 p3 q0 q1 q2 q3 r0 r1 r2 r3
    obtain ⟨b0, o0, rfl, _, hcx⟩ := RA.out.2 (by omega)
    have HCX := Lib.hid hcx
    clear hcx RA
    go_wp2_with fail
    go_loopw [8] (fun i wr => ∃ k : Nat, k ≤ n ∧ i = .int .i64 k ∧ Hid ((X.take k).all (fun x => Y.contains x) = true) ∧ wr = w4) (fun i _ => n - (intOf i).toNat)
    case atStart => exact ⟨0, by omega, rfl, by show _ = _; simp, rfl⟩
    case round =>
      obtain ⟨k, hk, rfl, HT, rfl⟩ := hrel
      by_cases hlt : k < n
      · obtain ⟨x, hx, _⟩ := atI_of_lt HXn.out hlt
        have hcell := rdI_at HCX.out hlt hx
        have cc := LH.out x
        have HX := Lib.hid hx
        clear hx
        cases hs : Y.contains x
        · rw [hs] at cc
          have HF := Lib.hid ((samePB_miss HX.out hs).symm.trans HR.out)
          clear hs
          go_wp2_with fail
          refine cc.mono ?_
          rintro e w' ⟨rfl, rfl⟩
          clear cc
          go_wp2_with fail
          go_ret2
          exact ⟨by rw [HF.out] <;> rfl, B4.out⟩
        · rw [hs] at cc
          have HT2 := Lib.hid (all_in_succ HX.out HT.out hs)
          clear hs
          go_wp2_with fail
          refine cc.mono ?_
          rintro e w' ⟨rfl, rfl⟩
          clear cc
          go_wp2_with fail
          go_roundw
          case rel => exact ⟨k + 1, by omega, by go_num, HT2, trivial⟩
          case measure => simp [intOf]; omega
      · have HF := Lib.hid ((samePB_end (X := X) (Y := Y) (by have e := HXn.out; rw [e, show n = k by omega]; exact HT.out)).symm.trans HR.out)
        by_cases hnm : n = m
        · have e1 : ((n : Int) == (m : Int)) = true := by rw [beq_iff_eq]; omega
          have HF2 := Lib.hid (show true = r by rw [← HF.out, HXn.out, HYm.out, hnm]; simp)
          clear hnm
          go_wp2_with fail
          go_ret2
          exact ⟨by rw [← HF2.out] <;> rfl, B4.out⟩
        · have e1 : ((n : Int) == (m : Int)) = false := by rw [beq_eq_false_iff_ne]; omega
          have HF2 := Lib.hid (show false = r by rw [← HF.out, HXn.out, HYm.out]; simp [hnm])
          go_wp2_with fail
          go_ret2
          exact ⟨by rw [← HF2.out] <;> rfl, B4.out⟩
set_option maxHeartbeats 1000000 in
theorem same_spec_no (d l f s d' l' f' s' : Int) (w : World) (h : ¬ (FOk d l f s ∧ FOk d' l' f' s')) :
    Calls Try.prog 30 #[.agg #[.int .i64 d, .int .i64 l, .int .i64 f, .int .i64 s], .agg #[.int .i64 d', .int .i64 l', .int .i64 f', .int .i64 s']] w fun e w' => e = .returned (.tuple #[.bool false, .bool false]) ∧ Below w.heap.size w w' := by
  by_cases h1 : FOk d l f s
  · have c1 := fun W => l3Good_yes d l f s W h1
    have c2 := fun W => l3Good_no d' l' f' s' W (fun e => h ⟨h1, e⟩)
    clear h h1
    go_enter Try.func30, Try.ntmps30
    go_wp2_with fail
    refine (c1 _).mono ?_
    rintro e w1 ⟨rfl, hb⟩
    obtain ⟨hc, hf⟩ := bcell hb
    have hz0 : w.heap.size < w1.heap.size := by have := hb.size; simp at this; omega
    have hz1 : w.heap.size + 1 < w1.heap.size := by have := hb.size; simp at this; omega
    have B1 := box2 hb
    clear hb c1
    go_wp2_with fail
    refine (c2 _).mono ?_
    rintro e w2 ⟨rfl, hb⟩
    have B2 := Lib.hid (B1.trans (hb.mono B1.size))
    clear hb c2 B1 hc hf
    go_wp2_with fail
    go_ret2
    exact ⟨rfl, B2.out⟩
  · have c1 := fun W => l3Good_no d l f s W h1
    clear h h1
    go_enter Try.func30, Try.ntmps30
    go_wp2_with fail
    refine (c1 _).mono ?_
    rintro e w1 ⟨rfl, hb⟩
    have B1 := Lib.hid (box2 hb)
    clear hb c1
    go_wp2_with fail
    go_ret2
    exact ⟨rfl, B1.out⟩
end Go.Proofs.Ytmogabnngphfgaa
