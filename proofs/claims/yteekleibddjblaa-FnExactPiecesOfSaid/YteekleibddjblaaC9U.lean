/- Contract: the program's PiecesOf. -/
import Derived.Test.YteekleibddjblaaC9Z
import Derived.Test.YteekleibddjblaaC9C
namespace Go.Proofs.Yteekleibddjblaa
open Go.RowKit

/-- The rows D, of which the first q have lost the cells of P. -/
def subTo (D P : List Int) (q : Nat) : List Int := (List.range 24).map (fun i => ((if i < q then lessN (NX D i) (NX P i) else NX D i : Nat) : Int))
theorem subTo_len (D P : List Int) (q : Nat) : (subTo D P q).length = 24 := by simp [subTo]
theorem subTo_at (D P : List Int) (q : Nat) {i : Nat} (hi : i < 24) : (subTo D P q)[i]? = some ((if i < q then lessN (NX D i) (NX P i) else NX D i : Nat) : Int) := by
  unfold subTo
  rw [List.getElem?_map, List.getElem?_range hi]
  rfl
theorem subTo_nx (D P : List Int) (q : Nat) {i : Nat} (hi : i < 24) : NX (subTo D P q) i = if i < q then lessN (NX D i) (NX P i) else NX D i := by
  show ((subTo D P q).getD i 0).toNat = _
  rw [List.getD_eq_getElem?_getD, subTo_at D P q hi]
  rfl
theorem subTo_nr {D P : List Int} (hD : NR D) (q : Nat) : NR (subTo D P q) := by
  refine ⟨subTo_len D P q, fun i hi => ?_⟩
  rw [subTo_nx D P q hi]
  refine ⟨by rw [List.getD_eq_getElem?_getD, subTo_at D P q hi]; rfl, ?_⟩
  have := (hD.2 i hi).2
  split
  · exact lessN_lt this
  · exact this
theorem subTo_zero {D : List Int} (hD : NR D) (P : List Int) : subTo D P 0 = D := by
  apply List.ext_getElem?
  intro i
  rcases Nat.lt_or_ge i 24 with hi | hi
  · rw [subTo_at D P 0 hi, if_neg (by omega)]
    have h1 := (hD.2 i hi).1
    have h2 : i < D.length := by have := hD.1; omega
    rw [List.getElem?_eq_getElem h2]
    simp only [List.getD, List.getElem?_eq_getElem h2, Option.getD_some] at h1
    rw [h1]
  · rw [List.getElem?_eq_none (by simp [subTo]; omega), List.getElem?_eq_none (by have := hD.1; omega)]
theorem subTo_step (D P : List Int) {q : Nat} (hq : q < 24) : (subTo D P q).set q ((lessN (NX D q) (NX P q) : Nat) : Int) = subTo D P (q + 1) := by
  apply List.ext_getElem?
  intro i
  rw [List.getElem?_set]
  rcases Nat.lt_or_ge i 24 with hi | hi
  · rw [subTo_at D P _ hi, subTo_at D P _ hi]
    by_cases e : q = i
    · subst e
      rw [if_pos rfl, if_pos (by rw [subTo_len]; exact hi), if_pos (Nat.lt_succ_self q)]
    · rw [if_neg e]
      by_cases h1 : i < q
      · rw [if_pos h1, if_pos (by omega)]
      · rw [if_neg h1, if_neg (by omega)]
  · rw [if_neg (by omega), List.getElem?_eq_none (by rw [subTo_len]; omega), List.getElem?_eq_none (by rw [subTo_len]; omega)]
theorem subTo_cell {D P : List Int} (hD : NR D) (hP : NR P) (d : Nat) : cellR (subTo D P 24) d ↔ cellR D d ∧ ¬ cellR P d := by
  unfold cellR
  constructor
  · rintro ⟨h1, h2⟩
    have h24 : d / 20 < 24 := by omega
    have hd := (hD.2 _ h24).2
    have hp := (hP.2 _ h24).2
    rw [subTo_nx D P 24 h24, if_pos h24, lessN_bit (by omega) (by omega)] at h2
    simp only [Bool.and_eq_true, Bool.not_eq_true'] at h2
    exact ⟨⟨h1, h2.1⟩, fun h => by rw [h.2] at h2; cases h2.2⟩
  · rintro ⟨⟨h1, h2⟩, h3⟩
    have h24 : d / 20 < 24 := by omega
    have hd := (hD.2 _ h24).2
    have hp := (hP.2 _ h24).2
    refine ⟨h1, ?_⟩
    rw [subTo_nx D P 24 h24, if_pos h24, lessN_bit (by omega) (by omega), h2]
    cases hb : (NX P (d / 20)).testBit (d % 20)
    · rfl
    · exact absurd ⟨h1, hb⟩ h3
/-- What stands while pieces are taken: T is taken, D is left, the count has come to cell q. -/
def Taken (R : Nat → Prop) (D : List Int) (q m : Nat) : Prop := ∃ T, PieceP R q T m ∧ ∀ d, cellR D d ↔ R d ∧ ¬ T d
theorem Taken.none {R : Nat → Prop} {D : List Int} {q m : Nat} (h : Taken R D q m) {d : Nat} (hd : d < q) : ¬ cellR D d := fun hc => by
  obtain ⟨T, hp, hD⟩ := h
  have := (hD d).1 hc
  exact this.2 (hp.all d hd this.1)
theorem Taken.run {R : Nat → Prop} {D : List Int} {q m q' : Nat} (h : Taken R D q m) (hq : q ≤ q') (hno : ∀ d, q ≤ d → d < q' → ¬ cellR D d) : Taken R D q' m := by
  obtain ⟨T, hp, hD⟩ := h
  refine ⟨T, ?_, hD⟩
  obtain ⟨j, rfl⟩ : ∃ j, q' = q + j := ⟨q' - q, by omega⟩
  refine hp.run j (fun x h1 h2 hx => ?_)
  rcases Classical.em (T x) with ht | ht
  · exact ht
  · exact absurd ((hD x).2 ⟨hx, ht⟩) (hno x h1 h2)
theorem Taken.take {R : Nat → Prop} {D P : List Int} {q m : Nat} (hD : NR D) (hP : NR P) (h : Taken R D q m) (hq : cellR D q) (hr : ∀ d, cellR P d ↔ ReachN (cellR D) q d) : Taken R (subTo D P 24) (q + 1) (m + 1) := by
  obtain ⟨T, hp, hT⟩ := h
  obtain ⟨hq1, hq2⟩ := (hT q).1 hq
  refine ⟨fun x => T x ∨ ReachN R q x, .take hp hq1 hq2, fun d => ?_⟩
  rw [subTo_cell hD hP d, hT d, hr d]
  have hset : ∀ x, (cellR D x → (R x ∧ ¬ T x)) ∧ ((R x ∧ ¬ T x) → cellR D x) := fun x => ⟨(hT x).1, (hT x).2⟩
  constructor
  · rintro ⟨⟨h1, h2⟩, h3⟩
    refine ⟨h1, ?_⟩
    rintro (h4 | h4)
    · exact h2 h4
    · exact h3 ((ReachN.without hp.closed h4 hq2).1.mono (fun x hx => (hset x).2 hx))
  · rintro ⟨h1, h2⟩
    exact ⟨⟨h1, fun h => h2 (.inl h)⟩, fun h3 => h2 (.inr (h3.mono (fun x hx => ((hset x).1 hx).1)))⟩
theorem less_low {a b j : Nat} (ha : a < 1048576) (hb : b < 1048576) (h1 : a.testBit j = true) (h2 : b.testBit j = true) : lessN a b < a := by
  have hle : lessN a b ≤ a := Nat.and_le_left
  rcases Nat.lt_or_eq_of_le hle with h | h
  · exact h
  · have h3 := lessN_bit (a := a) (b := b) (by omega) (by omega) j
    rw [h, h1, h2] at h3
    cases h3

set_option maxRecDepth 100000 in
set_option maxHeartbeats 8000000 in
theorem pieces_impl (X : List Int) (n : Nat) (a : Option Addr) (c : Nat) (w : World) (h : RdI w a n X) (hwf : WfI X) (hn : n ≤ 1048577) :
    Calls Try.prog 27 #[.agg #[.slice a n c]] w fun e w' => ∃ m : Nat, e = .returned (.tuple #[.int .i64 (m : Int), .bool (goodR X)]) ∧ (if goodR X then ∃ T, PieceP (cellR X) 480 T m else m = 0) ∧ Below w.heap.size w w' := by
  have XA := BoxF.new w [.slice a n c] 28
  have hb := (Below.refl _ w).alloc (Nat.le_refl _) (.cells #[.slice a n c] 28 (0, 0))
  have c1 := XA.one.1
  have HR := Lib.hid h
  have CV := Lib.hid (valid_impl X n a c _ (h.below hb) hwf hn)
  have HX := Lib.hid XA
  have HB := Lib.hid hb
  clear h hb XA hwf
  cases hg : goodR X
  · rw [hg] at CV
    clear hg
    go_enter Try.func27, Try.ntmps27
    go_wp2_with fail
    refine CV.out.mono ?_
    rintro e w1 ⟨rfl, hb1⟩
    have HB1 := Lib.hid (HB.out.trans (hb1.mono HB.out.size))
    clear hb1 HX c1
    go_wp2_with fail
    go_ret2
    exact ⟨0, rfl, by simp, HB1.out⟩
  · rw [hg] at CV
    have h24 : n = 24 := by rw [← HR.out.1]; exact goodR_len hg
    subst h24
    have HN := Lib.hid (nr_good hg)
    simp only [if_true]
    clear hg
    go_enter Try.func27, Try.ntmps27
    go_wp2_with fail
    refine CV.out.mono ?_
    rintro e w1 ⟨rfl, hb1⟩
    have HX1 := Lib.hid (HX.out.below hb1)
    have HB1 := Lib.hid (HB.out.trans (hb1.mono HB.out.size))
    have c1 := HX1.out.one.1
    clear hb1 HX HB CV
    go_wp2_with fail
    refine (clone24 X HN.out.1 a c _ (HR.out.below HB1.out)).mono ?_
    rintro e w2 ⟨g, cap, rfl, ho, hb2⟩
    have hgw := (World.ownsRow.lt ho g rfl).1
    have HB2 := Lib.hid (HB1.out.trans (hb2.mono HB1.out.size))
    have hsz := HB1.out.size
    have HO2 := Lib.hid (OwnI.low ho (B' := w.heap.size) hsz)
    have hgw2 : w.heap.size ≤ g := by omega
    clear hb2 ho c1 HX1 HB1 hgw hsz
    have HT := Lib.hid (show Taken (cellR X) X 0 0 from ⟨fun _ => False, .start, fun d => ⟨fun h => ⟨h, fun q => q⟩, fun h => h.1⟩⟩)
    go_wp2_with fail
    go_loopw [5, 17] (fun ps i wr => ∃ (k m : Nat) (D : List Int), k ≤ 24 ∧ i = .int .i64 (k : Int) ∧ ps = .int .i64 (m : Int) ∧ m ≤ 20 * k ∧ Hid (NR D ∧ Taken (cellR X) D (20 * k) m) ∧ Hid (OwnI wr w.heap.size (some ⟨g, 0, none⟩) 24 cap D) ∧ Hid (Below w.heap.size w wr)) (fun _ i _ => 24 - (intOf i).toNat)
    case atStart => exact ⟨0, 0, X, by omega, rfl, rfl, by omega, Lib.hid ⟨HN.out, HT.out⟩, HO2, HB2⟩
    case round =>
      obtain ⟨k, m, D, hk, rfl, rfl, hm, HD, HO, HB⟩ := hrel
      clear HT HO2 HB2
      by_cases hlt : k < 24
      · have elk : decide ((k : Int) < 24) = true := decide_eq_true (by omega)
        go_wp2_with fail
        go_loopg [5] (NX D k) (fun gh ps wy => ∃ (m q : Nat) (D : List Int), NX D k = gh ∧ ps = .int .i64 (m : Int) ∧ m ≤ q ∧ 20 * k ≤ q ∧ q ≤ 20 * k + 20 ∧ Hid (NR D ∧ Taken (cellR X) D q m) ∧ Hid (OwnI wy w.heap.size (some ⟨g, 0, none⟩) 24 cap D) ∧ Hid (Below w.heap.size w wy))
        case atStart => exact ⟨m, 20 * k, D, rfl, rfl, hm, by omega, by omega, HD, HO, HB⟩
        case round =>
          clear HD HO HB hm
          obtain ⟨m, q, D, rfl, rfl, hmq, hq0, hq1, HD, HO, HB⟩ := hrel
          have p2 := HO.out.cellAt k (by have := HD.out.1.1; simp; omega)
          have hpv : (D.map (Value.int .i64))[k]? = some (.int .i64 ((NX D k : Nat) : Int)) := by
            have hl := HD.out.1.1
            have e := (HD.out.1.2 k hlt).1
            rw [List.getElem?_map, List.getElem?_eq_getElem (by omega)]
            simp only [List.getD, List.getElem?_eq_getElem (show k < D.length by omega), Option.getD_some] at e
            rw [Option.map_some, e]
          rw [hpv] at p2
          clear hpv
          by_cases hz : NX D k = 0
          · have hno : ∀ d, q ≤ d → d < 20 * (k + 1) → ¬ cellR D d := fun d h1 h2 hc => by
              have e : d / 20 = k := by omega
              have := hc.2
              rw [e, hz] at this
              simp at this
            have HD2 := Lib.hid (And.intro HD.out.1 (HD.out.2.run (q' := 20 * (k + 1)) (by omega) hno))
            rw [hz] at p2
            clear HD hno hz
            go_wp2_with fail
            go_roundw
            case rel => exact ⟨k + 1, m, D, by omega, by go_num, rfl, by omega, HD2, HO, HB⟩
            case measure => simp [intOf]; omega
          · have ez : (((NX D k : Nat) : Int) != 0) = true := by simp; omega
            have CF := Lib.hid (firstPiece_any D (some ⟨g, 0, none⟩) cap k _ HO.out.rd HD.out.1 hlt hz)
            obtain ⟨DK, hDK⟩ : ∃ q, NX D k = q := ⟨_, rfl⟩
            rw [hDK] at p2 ez hz
            have HDK := Lib.hid hDK
            clear hDK
            go_wp2_with fail
            refine CF.out.mono ?_
            rintro e w3 ⟨P, gp, j, rfl, hop, hnp, ⟨hj20, hjb, hjmin⟩, hreach, hb3⟩
            obtain ⟨BP, hBP⟩ : ∃ q, wr.heap.size = q := ⟨_, rfl⟩
            rw [hBP] at hop
            have hlow : ∀ d, q ≤ d → d < 20 * k + j → ¬ cellR D d := fun d h1 h2 hc => by
              have e : d / 20 = k := by omega
              have h3 := hc.2
              rw [e, hjmin (d % 20) (by omega)] at h3
              cases h3
            have hcj : cellR D (20 * k + j) := (cellR_at D hj20 hlt).2 hjb
            have hqj : q ≤ 20 * k + j := by
              rcases Nat.lt_or_ge (20 * k + j) q with h1 | h1
              · exact absurd hcj (HD.out.2.none h1)
              · exact h1
            have hpj : (NX P k).testBit j = true := (cellR_at P hj20 hlt).1 ((hreach _).2 (.here hcj))
            have hdk := (HD.out.1.2 k hlt).2
            have hpk := (hnp.2 k hlt).2
            have hless : NX (subTo D P 24) k < DK := by
              rw [subTo_nx D P 24 hlt, if_pos hlt, ← HDK.out]
              exact less_low hdk hpk hjb hpj
            have HT2 := Lib.hid (And.intro (subTo_nr HD.out.1 24 (P := P)) (((HD.out.2.run hqj hlow).take HD.out.1 hnp hcj hreach)))
            have HL := Lib.hid (And.intro hless (And.intro hqj hj20))
            have HD3 := Lib.hid (And.intro HD.out.1 hnp)
            have HOp := Lib.hid hop
            have HO3 := Lib.hid (HO.out.below hb3)
            have HB3 := Lib.hid (HB.out.trans (hb3.mono HB.out.size))
            have hgp := (World.ownsRow.lt hop gp rfl).1
            have hgl := (World.ownsRow.lt HO.out g rfl).2
            rw [hBP] at hgl
            have hne : g ≠ gp := by omega
            rw [← subTo_zero HD.out.1 P] at HO3
            clear hlow hcj hqj hpj hdk hpk hless HD HO HB hop hnp hjb hjmin hreach hb3 CF p2 ez hz hgl hBP
            go_wp2_with fail
            go_loopw [31] (fun i wz => ∃ u : Nat, u ≤ 24 ∧ i = .int .i64 (u : Int) ∧ Hid (OwnI wz w.heap.size (some ⟨g, 0, none⟩) 24 cap (subTo D P u)) ∧ Hid (OwnI wz BP (some ⟨gp, 0, none⟩) 24 24 P) ∧ Hid (Below w.heap.size w wz)) (fun i _ => 24 - (intOf i).toNat)
            case atStart => exact ⟨0, by omega, rfl, HO3, HOp, HB3⟩
            case round =>
              obtain ⟨u, hu, rfl, HO, HOP, HB⟩ := hrel
              clear HO3 HB3 HOp
              by_cases hlu : u < 24
              · have elu : decide ((u : Int) < 24) = true := decide_eq_true (by omega)
                have p2 := HO.out.cellAt u (by simp; omega)
                rw [List.getElem?_map, subTo_at D P u hlu, if_neg (Nat.lt_irrefl u), Option.map_some] at p2
                have p3 := HOP.out.cellAt u (by have := HD3.out.2.1; simp; omega)
                have hpv : (P.map (Value.int .i64))[u]? = some (.int .i64 ((NX P u : Nat) : Int)) := by
                  have hl := HD3.out.2.1
                  have e := (HD3.out.2.2 u hlu).1
                  rw [List.getElem?_map, List.getElem?_eq_getElem (by omega)]
                  simp only [List.getD, List.getElem?_eq_getElem (show u < P.length by omega), Option.getD_some] at e
                  rw [Option.map_some, e]
                rw [hpv] at p3
                have fz := HO.out.frozenAt u
                have hor := i64_andNot_nat (NX D u) (NX P u) (by have := (HD3.out.1.2 u hlu).2; omega) (by have := (HD3.out.2.2 u hlu).2; omega)
                have hst := subTo_step D P hlu
                obtain ⟨LV, hLV⟩ : ∃ q, lessN (NX D u) (NX P u) = q := ⟨_, rfl⟩
                rw [hLV] at hor hst
                have HO5 := HO.out.stored u (.int .i64 (LV : Int))
                have HB5 := Lib.hid (HB.out.grown HO5.2 HB.out.size (fun q hq => by cases hq; exact hgw2))
                have HP5 := Lib.hid (HOP.out.kept HO5.2 (by right; simp [Value.ownBlock]; omega))
                have HO6 := Lib.hid (show OwnI (wr.setCell ⟨g, u, none⟩ (.int .i64 (LV : Int))) w.heap.size (some ⟨g, 0, none⟩) 24 cap (subTo D P (u + 1)) by
                  rw [← hst]
                  unfold OwnI
                  rw [List.map_set]
                  exact HO5.1)
                clear HO HB HOP HO5 hpv hst hLV
                go_wp2_with fail
                go_roundw
                case rel => exact ⟨u + 1, by omega, by go_num, HO6, HP5, HB5⟩
                case measure => simp [intOf]; omega
              · have elu : decide ((u : Int) < 24) = false := decide_eq_false (by omega)
                obtain rfl : u = 24 := by omega
                obtain ⟨hl1, hl2, hl3⟩ := HL.out
                clear HOP HL
                go_wp2_with fail
                go_roundg (NX (subTo D P 24) k)
                case measure => rw [HDK.out]; exact hl1
                case rel => exact ⟨m + 1, 20 * k + j + 1, _, rfl, by go_num, by omega, by omega, by omega, HT2, HO, HB⟩
      · have elk : decide ((k : Int) < 24) = false := decide_eq_false (by omega)
        obtain rfl : k = 24 := by omega
        obtain ⟨T, hp, _⟩ := HD.out.2
        have HP := Lib.hid (show ∃ T, PieceP (cellR X) 480 T m from ⟨T, hp⟩)
        clear HD hp
        go_wp2_with fail
        go_ret2
        exact ⟨m, rfl, HP.out, HB.out⟩
end Go.Proofs.Yteekleibddjblaa
