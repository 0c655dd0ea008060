/- slices.Sort on a list of ints that the call owns; what it says of the tinctures of two fields. -/
import Derived.Test.YtmogabnngphfgaaDoorREq
import Derived.Test.YtmogabnngphfgaaDoorFSame
import Derived.Sort.OwnSortedInts
namespace Go.Proofs.YtmogabnngphfgaaDoor
open Go.RowKit

def sortL (X : List Int) : List Int := X.mergeSort fun x y => decide (x ≤ y)
theorem sortL_len (X : List Int) : (sortL X).length = X.length := by simp [sortL]
theorem sort_own (X : List Int) (n B cap : Nat) (a : Option Addr) (w : World) (ho : OwnI w B a n cap X) (hn : 1 ≤ n) (hn2 : n ≤ 1000) :
    Calls Tryd.prog 34 #[.slice a n cap] w fun e w' => e = .returned (.tuple #[]) ∧ OwnI w' B a n cap (sortL X) ∧ w.grownBy w' (Value.slice a n cap).ownBlock := by
  have hl := ho.len
  subst hl
  rcases ho.2 with ⟨_, h0⟩ | ⟨g, cap', cur, hv, hg, hb, h1, h2, h3, h4⟩
  · omega
  cases hv
  have hH := holds_of_blockI hb (by simpa using h4)
  have hlt : g < w.heap.size := (Array.getElem?_eq_some_iff.1 hb).1
  refine (Tryd.slices_Sort_int g 0 cap X w hH hlt (by omega)).mono ?_
  rintro e w' ⟨rfl, k, os, rfl⟩
  refine ⟨rfl, ?_, ?_⟩
  · exact ownsRow_sortedI (ts := sortL X) (sortL_len X) hg hb h1 h2 h3
  · exact grownBy_sortedI _
theorem sort1 (x : Int) : sortL [x] = [x] := by simp [sortL]
theorem sort2 (x y : Int) : sortL [x, y] = if x ≤ y then [x, y] else [y, x] := by
  unfold sortL
  by_cases h : x ≤ y
  · simp [List.mergeSort, List.MergeSort.Internal.splitInTwo, h]
  · simp [List.mergeSort, List.MergeSort.Internal.splitInTwo, h]
theorem same_math {d l f s d' l' f' s' : Int} (h : FOk d l f s) (h' : FOk d' l' f' s') : decide (sortL (tincL d f s) = sortL (tincL d' f' s')) = samePB (tincL d f s) (tincL d' f' s') := by
  obtain ⟨_, _, _, hs⟩ := h
  obtain ⟨_, _, _, hs'⟩ := h'
  by_cases h0 : d = 0
  · by_cases h0' : d' = 0
    · rw [tincL_0 h0, tincL_0 h0', sort1, sort1]
      rw [Bool.eq_iff_iff]
      simp [samePB]
    · rw [tincL_0 h0, tincL_1 h0', sort1, sort2]
      have : samePB [f] [f', s'] = false := by simp [samePB]
      rw [this]
      split <;> simp
  · by_cases h0' : d' = 0
    · rw [tincL_1 h0, tincL_0 h0', sort1, sort2]
      have : samePB [f, s] [f'] = false := by simp [samePB]
      rw [this]
      split <;> simp
    · rw [tincL_1 h0, tincL_1 h0', sort2, sort2]
      have n1 : s ≠ f := by rcases hs with ⟨e, _⟩ | ⟨_, _, e⟩; exact absurd e h0; exact e
      have n2 : s' ≠ f' := by rcases hs' with ⟨e, _⟩ | ⟨_, _, e⟩; exact absurd e h0'; exact e
      rw [Bool.eq_iff_iff]
      have hR : samePB [f, s] [f', s'] = true ↔ (f = f' ∨ f = s') ∧ (s = f' ∨ s = s') := by simp [samePB]
      rw [hR, decide_eq_true_iff]
      split <;> split <;> simp <;> omega
set_option maxHeartbeats 4000000 in
theorem same_impl (d l f s d' l' f' s' : Int) (w : World) (h : FOk d l f s) (h' : FOk d' l' f' s') :
    Calls Tryd.prog 14 #[.agg #[.int .i64 d, .int .i64 l, .int .i64 f, .int .i64 s], .agg #[.int .i64 d', .int .i64 l', .int .i64 f', .int .i64 s']] w fun e w' => e = .returned (.tuple #[.bool (samePB (tincL d f s) (tincL d' f' s')), .bool true]) ∧ Below w.heap.size w w' := by
  have ca := fun W => fieldTinctures_impl d l f s W h
  have cb := fun W => fieldTinctures_impl d' l' f' s' W h'
  obtain ⟨r, hr⟩ : ∃ r, samePB (tincL d f s) (tincL d' f' s') = r := ⟨_, rfl⟩
  have hr2 := same_math h h'
  rw [hr] at hr2
  rw [hr]
  have hX := tincL_len d f s
  have hY := tincL_len d' f' s'
  have hX0 := tincL_pos d f s
  have hY0 := tincL_pos d' f' s'
  unfold Ans at ca cb
  clear h h' hr
  generalize tincL d f s = X at *
  generalize tincL d' f' s' = Y at *
  obtain ⟨n, hn⟩ : ∃ n, X.length = n := ⟨_, rfl⟩
  obtain ⟨m, hm⟩ : ∃ m, Y.length = m := ⟨_, rfl⟩
  rw [hn] at ca hX hX0
  rw [hm] at cb hY hY0
  have CA := Lib.hid ca
  have CB := Lib.hid cb
  have HR := Lib.hid hr2
  clear ca cb hn hm hr2
  go_enter Tryd.func14, Tryd.ntmps14
  go_wp2_with fail
  refine (CA.out _).mono ?_
  rintro e w1 ⟨xa, ka, rfl, hoa, hba⟩
  have Y1 := (Box.new (w.alloc (.cells #[.int .i64 d, .int .i64 l, .int .i64 f, .int .i64 s] 25 (0, 0))) [.int .i64 d', .int .i64 l', .int .i64 f', .int .i64 s'] 25).below hba
  simp only [World.size_alloc] at Y1
  have y0 := Y1.2 0 _ rfl
  have y1 := Y1.2 1 _ rfl
  have y2 := Y1.2 2 _ rfl
  have y3 := Y1.2 3 _ rfl
  have B1 := Lib.hid (box2 hba)
  have OA := Lib.hid (hoa.low (B' := w.heap.size) (by simp; omega))
  clear hoa hba Y1
  go_wp2_with fail
  refine (CB.out _).mono ?_
  rintro e w2 ⟨xb, kb, rfl, hob, hbb⟩
  have OA2 := Lib.hid (OA.out.below hbb)
  have OB2 := Lib.hid hob
  have B2 := Lib.hid (B1.out.trans (hbb.mono B1.out.size))
  have S1 := B1.out.size
  have S2 := hbb.size
  clear y0 y1 y2 y3 hob hbb
  go_wp2_with fail
  refine (sort_own X n _ _ _ _ OA2.out hX0 (by omega)).mono ?_
  rintro e w3 ⟨rfl, hoa3, hg3⟩
  have la := fun q hq => (World.ownsRow.lt OA.out q hq)
  have lb := fun q hq => (World.ownsRow.lt OB2.out q hq)
  have hne : (Value.slice xb m kb).ownBlock ≠ (Value.slice xa n ka).ownBlock ∨ (Value.slice xb m kb).ownBlock = none := by
    cases hq : (Value.slice xb m kb).ownBlock with
    | none => exact .inr rfl
    | some q =>
      refine .inl fun e2 => ?_
      have h1 := (la q e2.symm).2
      have h2 := (lb q hq).1
      omega
  have OB3 := Lib.hid (OB2.out.kept hg3 hne.symm)
  have OA3 := Lib.hid hoa3
  have B3 := Lib.hid (B2.out.grown hg3 (by omega) (fun q hq => (la q hq).1))
  have S3 := hg3.size
  clear hoa3 hg3 OA2
  go_wp2_with fail
  refine (sort_own Y m _ _ _ _ OB3.out hY0 (by omega)).mono ?_
  rintro e w4 ⟨rfl, hob4, hg4⟩
  have hne2 : (Value.slice xa n ka).ownBlock = none ∨ (Value.slice xa n ka).ownBlock ≠ (Value.slice xb m kb).ownBlock := by
    cases hq : (Value.slice xa n ka).ownBlock with
    | none => exact .inl rfl
    | some q =>
      refine .inr fun e2 => ?_
      have h1 := (la q hq).2
      have h2 := (lb q e2.symm).1
      omega
  have RA4 := Lib.hid (OA3.out.kept hg4 hne2).rd
  have RB4 := Lib.hid hob4.rd
  have B4 := Lib.hid (B3.out.grown hg4 (by omega) (fun q hq => Nat.le_trans S1 (lb q hq).1))
  clear hob4 hg4 hne hne2 la lb OA OB2 OA3 OB3
  go_wp2_with fail
  refine (sEqual_any (sortL X) (sortL Y) n m _ _ _ _ _ RA4.out RB4.out hX0 hY0 (by omega) (by omega) r HR.out).mono ?_
  rintro e w5 ⟨rfl, q, rfl⟩
  go_wp2_with fail
  go_ret2
  exact ⟨rfl, below_drewN' B4.out q⟩
theorem same_impl_no (d l f s d' l' f' s' : Int) (w : World) (h : ¬ (FOk d l f s ∧ FOk d' l' f' s')) :
    Calls Tryd.prog 14 #[.agg #[.int .i64 d, .int .i64 l, .int .i64 f, .int .i64 s], .agg #[.int .i64 d', .int .i64 l', .int .i64 f', .int .i64 s']] w fun e w' => e = .returned (.tuple #[.bool false, .bool false]) ∧ Below w.heap.size w w' := by
  obtain ⟨n, m, X, Y, p, q, ca, cb, hpq⟩ : ∃ (n m : Nat) (X Y : List Int) (p q : Bool), (∀ W, Calls Tryd.prog 33 #[.agg #[.int .i64 d, .int .i64 l, .int .i64 f, .int .i64 s]] W fun e w' => ∃ a cap, e = .returned (.tuple #[.slice a n cap, .bool p]) ∧ OwnI w' W.heap.size a n cap X ∧ Below W.heap.size W w') ∧ (∀ W, Calls Tryd.prog 33 #[.agg #[.int .i64 d', .int .i64 l', .int .i64 f', .int .i64 s']] W fun e w' => ∃ a cap, e = .returned (.tuple #[.slice a m cap, .bool q]) ∧ OwnI w' W.heap.size a m cap Y ∧ Below W.heap.size W w') ∧ (p && q) = false := by
    by_cases h1 : FOk d l f s
    · by_cases h2 : FOk d' l' f' s'
      · exact absurd ⟨h1, h2⟩ h
      · exact ⟨_, _, _, _, true, false, fun W => fieldTinctures_impl d l f s W h1, fun W => fieldTinctures_impl_no d' l' f' s' W h2, rfl⟩
    · by_cases h2 : FOk d' l' f' s'
      · exact ⟨_, _, _, _, false, true, fun W => fieldTinctures_impl_no d l f s W h1, fun W => fieldTinctures_impl d' l' f' s' W h2, rfl⟩
      · exact ⟨_, _, _, _, false, false, fun W => fieldTinctures_impl_no d l f s W h1, fun W => fieldTinctures_impl_no d' l' f' s' W h2, rfl⟩
  clear h
  have CA := Lib.hid ca
  have CB := Lib.hid cb
  clear ca cb
  rcases p with _ | _ <;> rcases q with _ | _
  case true.true => cases hpq
  all_goals
    clear hpq
    go_enter Tryd.func14, Tryd.ntmps14
    go_wp2_with fail
    refine (CA.out _).mono ?_
    rintro e w1 ⟨xa, ka, rfl, hoa, hba⟩
    have Y1 := (Box.new (w.alloc (.cells #[.int .i64 d, .int .i64 l, .int .i64 f, .int .i64 s] 25 (0, 0))) [.int .i64 d', .int .i64 l', .int .i64 f', .int .i64 s'] 25).below hba
    simp only [World.size_alloc] at Y1
    have y0 := Y1.2 0 _ rfl
    have y1 := Y1.2 1 _ rfl
    have y2 := Y1.2 2 _ rfl
    have y3 := Y1.2 3 _ rfl
    have B1 := Lib.hid (box2 hba)
    clear hoa hba Y1
    go_wp2_with fail
    refine (CB.out _).mono ?_
    rintro e w2 ⟨xb, kb, rfl, hob, hbb⟩
    have B2 := Lib.hid (B1.out.trans (hbb.mono B1.out.size))
    clear y0 y1 y2 y3 B1 hob hbb
    go_wp2_with fail
    go_ret2
    exact ⟨rfl, B2.out⟩
end Go.Proofs.YtmogabnngphfgaaDoor
