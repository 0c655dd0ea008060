/- Contract: the model's PiecesOf. -/
import Derived.Test.YteekleibddjblaaC9I
import Derived.Deep.DeepCutAuto
namespace Go.Proofs.Yteekleibddjblaa
open Go.RowKit

theorem infoBool : (Try.prog.info? 4).map (fun i => (i.zero, i.size, i.bytes)) = some (some (.bool false), 1, 1) := by kernel_rfl
/-- The slice owns a row of truth values. -/
def OwnB (w : World) (B g n cap : Nat) (L : List Bool) : Prop := w.ownsRow B 4 1 (.slice (some ⟨g, 0, none⟩) n cap) n (L.map Value.bool)
set_option maxRecDepth 100000 in
set_option maxHeartbeats 8000000 in
theorem pieces_spec (X : List Int) (n : Nat) (a : Option Addr) (c : Nat) (w : World) (h : RdI w a n X) (hn : n ≤ 1048577) :
    Calls Try.prog 25 #[.agg #[.slice a n c]] w fun e w' => ∃ m : Nat, e = .returned (.tuple #[.int .i64 (m : Int), .bool (goodR X)]) ∧ (if goodR X then ∃ T, PieceP (cellR X) 480 T m else m = 0) ∧ Below w.heap.size w w' := by
  obtain ⟨i0, hi, hz0, hz1, hz2⟩ := info_parts infoBool
  obtain ⟨i1, ji, jz0, jz1, jz2⟩ := info_parts infoI
  have XA := BoxF.new w [.slice a n c] 28
  have hb := (Below.refl _ w).alloc (Nat.le_refl _) (.cells #[.slice a n c] 28 (0, 0))
  have c1 := XA.one.1
  have HR := Lib.hid h
  have CV := Lib.hid (good_spec X n a c _ (h.below hb) hn)
  have HX := Lib.hid XA
  have HB := Lib.hid hb
  clear h hb XA
  cases hg : goodR X
  · rw [hg] at CV
    clear hg
    go_enter Try.func25, Try.ntmps25
    go_wp2_with fail
    refine CV.out.mono ?_
    rintro e w1 ⟨rfl, hb1⟩
    have HB1 := Lib.hid (HB.out.trans (hb1.mono HB.out.size))
    clear hb1 HX c1
    go_wp2_with fail
    go_ret2
    exact ⟨0, rfl, by simp, HB1.out⟩
  · rw [hg] at CV
    have h24 : n = 24 := by rw [← HR.out.1]; exact goodR_len hg
    subst h24
    have HG := Lib.hid hg
    simp only [if_true]
    clear hg
    go_enter Try.func25, Try.ntmps25
    go_wp2_with fail
    refine CV.out.mono ?_
    rintro e w1 ⟨rfl, hb1⟩
    have hs1 := HB.out.size
    have hs1b := hb1.size
    simp only [World.size_alloc] at hs1b
    have HX1 := Lib.hid (HX.out.below hb1)
    have HB1 := Lib.hid (HB.out.trans (hb1.mono HB.out.size))
    clear hb1 HX HB CV c1 hs1
    go_wp2_with (at_make; refine wpList_make_full _ rfl _ _ 64 rfl w.heap.size 4 i0 (.bool false) 1 Try.underlying64 hi hz0 hz1 .i64 .i64 480 480 480 rfl rfl rfl rfl (by rw [hz2]; omega) (by unfold maxLen; omega) (by omega) ?_; intro w2 hown2 hgr2; have HX2 := Lib.hid (HX1.out.kept hgr2 (by simp)); have c1 := HX2.out.one.1; have HB2 := Lib.hid (HB1.out.grown hgr2 HB1.out.size (fun q hq => by cases hq)); have CC := Lib.hid (cells_spec X a c w2 (HR.out.below HB2.out) HG.out); have HS2 := Lib.hid hown2; have HGR := Lib.hid hgr2; clear hown2 hgr2 HX1 HB1)
    refine CC.out.mono ?_
    rintro e w3 ⟨p, k, rfl, ho, hb3⟩
    have hsl := (World.ownsRow.lt HS2.out w1.heap.size rfl).2
    have HS3 := Lib.hid (show OwnB w3 w.heap.size w1.heap.size 480 480 (List.replicate 480 false) from by
      unfold OwnB
      rw [List.map_replicate, ← toList_madeCells_one]
      exact World.ownsRow.kept HS2.out (grownI_of_below hb3 none) (.inr (by simp [Value.ownBlock])))
    have HX3 := Lib.hid (HX2.out.below hb3)
    have HB3 := Lib.hid (HB2.out.trans (hb3.mono HB2.out.size))
    obtain ⟨B3, hB3⟩ : ∃ q, w2.heap.size = q := ⟨_, rfl⟩
    obtain ⟨sb, hsb⟩ : ∃ q, w1.heap.size = q := ⟨_, rfl⟩
    rw [hB3] at ho hsl
    rw [hsb] at hsl hs1b HS3
    obtain ⟨N, hN⟩ : ∃ q, (cellsK X 480).length = q := ⟨_, rfl⟩
    have hN480 := cellsK_len X 480
    rw [hN] at ho hN480
    have HC3 := Lib.hid ho
    have HN := Lib.hid hN
    have hb3s := HB3.out.size
    clear ho hb3 HX2 HB2 CC HS2 HGR hB3 c1
    rw [hN, hsb]
    clear hN hsb
    go_wp2_with fail
    go_loopw [6, 7] (fun cnt t wr => ∃ (i m q : Nat) (T : Nat → Prop) (L : List Bool), i ≤ N ∧ t = .int .i64 (i : Int) ∧ cnt = .int .i64 (m : Int) ∧ m ≤ i ∧ q ≤ 480 ∧ Hid (PieceP (cellR X) q T m ∧ (∀ x, seenB L x ↔ T x) ∧ (cellsK X q).length = i ∧ L.length = 480) ∧ Hid (OwnB wr w.heap.size sb 480 480 L) ∧ Hid (OwnI wr B3 p N k (cellsK X 480)) ∧ Hid (BoxF wr w.heap.size [.slice a 24 c] 28) ∧ Hid (Below w.heap.size w wr)) (fun _ t _ => 480 - (intOf t).toNat)
    case atStart => exact ⟨0, 0, 0, fun _ => False, List.replicate 480 false, by omega, rfl, rfl, by omega, by omega, Lib.hid ⟨.start, fun x => ⟨fun h => by rw [seenB, List.getElem?_replicate] at h; split at h <;> simp at h, fun h => h.elim⟩, by simp [cellsK], by simp⟩, HS3, HC3, HX3, HB3⟩
    case round =>
      obtain ⟨i, m, q, T, L, hiN, rfl, rfl, hm, hq, HP, HS, HC, HX, HB⟩ := hrel
      clear HS3 HC3 HX3 HB3
      by_cases hlt : i < N
      · have eli : decide ((i : Int) < (N : Int)) = true := decide_eq_true (by omega)
        obtain ⟨c0, k1, k2, k3, k4, k5, k6⟩ := next_cell X (480 - q) q (by omega) (by rw [HP.out.2.2.1, HN.out]; exact hlt)
        rw [HP.out.2.2.1] at k5 k6
        rcases HC.out.shape with ⟨_, h0, _⟩ | ⟨g, rfl, hg1, hg2⟩
        · omega
        have p3 := HC.out.cellAt i (by omega)
        have hcv : ((cellsK X 480).map (Value.int .i64))[i]? = some (.int .i64 (c0 : Int)) := by
          have hl : i < (cellsK X 480).length := by rw [HN.out]; exact hlt
          rw [List.getElem?_map, List.getElem?_eq_getElem hl]
          simp only [List.getD, List.getElem?_eq_getElem hl, Option.getD_some] at k6
          rw [Option.map_some, k6]
        rw [hcv] at p3
        obtain ⟨b, hb⟩ : ∃ b, L[c0]? = some b := ⟨L[c0]'(by have := HP.out.2.2.2; omega), List.getElem?_eq_getElem _⟩
        have p2 := HS.out.cellAt c0 (by omega)
        rw [List.getElem?_map, hb, Option.map_some] at p2
        have PT := HP.out.1.run (c0 - q) (fun x h1 h2 hr => absurd hr (k4 x h1 (by omega)))
        rw [show q + (c0 - q) = c0 by omega] at PT
        cases b
        · have hnT : ¬ T c0 := fun h => by
            have := (HP.out.2.1 c0).2 h
            rw [seenB, hb] at this
            cases this
          have fz := HS.out.frozenAt c0
          have HO5 := HS.out.stored c0 (.bool true)
          have HS5 := Lib.hid (show OwnB (wr.setCell ⟨sb, c0, none⟩ (.bool true)) w.heap.size sb 480 480 (L.set c0 true) from by unfold OwnB; rw [List.map_set]; exact HO5.1)
          have HC5 := Lib.hid (HC.out.kept HO5.2 (by right; simp [Value.ownBlock]; omega))
          have HX5 := Lib.hid (HX.out.kept HO5.2 (by intro e; cases e; omega))
          have HB5 := Lib.hid (HB.out.grown HO5.2 HB.out.size (fun q hq => by cases hq; omega))
          have p4 := HC5.out.cellAt i (by omega)
          rw [hcv] at p4
          have HF := Lib.hid (And.intro PT (And.intro hnT (And.intro k3 (And.intro hb (And.intro k5 HP.out.2)))))
          obtain ⟨B4, hB4⟩ : ∃ q, wr.heap.size = q := ⟨_, rfl⟩
          have HQ5 := Lib.hid (QV.one (w := wr.setCell ⟨sb, c0, none⟩ (.bool true)) (Bq := B4) (c0 : Int) (by rw [← hB4]; simp))
          rw [hB4] at hg2
          clear k3 k4 k5 k6 hcv hb PT hnT HO5 HP HS HC HX HB k1
          go_wp2_with fail
          go_loopg [8] (2 * blindN (L.set c0 true) + 1) (fun gh v wy => ∃ (L2 : List Bool) (Q : List Nat), 2 * blindN L2 + Q.length = gh ∧ 2 * blindN L2 + Q.length ≤ 1000 ∧ Hid (Bfs X T c0 L2 Q none ∧ L2.length = 480) ∧ Hid (OwnB wy w.heap.size sb 480 480 L2) ∧ Hid (OwnI wy B3 (some ⟨g, 0, none⟩) N k (cellsK X 480)) ∧ Hid (QV wy B4 v (Q.map (fun x : Nat => (x : Int)))) ∧ Hid (BoxF wy w.heap.size [.slice a 24 c] 28) ∧ Hid (Below w.heap.size w wy))
          case atStart => exact ⟨L.set c0 true, [c0], rfl, by have h1 := blind_le (L.set c0 true); have h2 := HF.out.2.2.2.2.2.2.2; simp at h1 ⊢; omega, Lib.hid ⟨Bfs.start HF.out.2.2.2.2.2.1 HF.out.2.2.1 (by have := HF.out.2.2.2.2.2.2.2; omega), by have := HF.out.2.2.2.2.2.2.2; simpa using this⟩, Lib.hid (World.ownsRow.alloc HS5.out _), Lib.hid (World.ownsRow.alloc HC5.out _), Lib.hid (by simpa [hB4] using HQ5.out), Lib.hid (HX5.out.alloc _), Lib.hid (HB5.out.alloc HB5.out.size _)⟩
          case round =>
            clear HS5 HC5 HX5 HB5 HQ5 p2 p3 p4 fz
            obtain ⟨L2, Q, rfl, hbig, HL2, HS, HC, HQ, HX, HB⟩ := hrel
            cases Q with
            | nil =>
              obtain ⟨b, o, cap, e, _⟩ := HQ.out
              simp only [List.map_nil, List.length_nil] at e
              subst e
              have HP2 := Lib.hid (And.intro (PieceP.take HF.out.1 HF.out.2.2.1 HF.out.2.1) (And.intro (HL2.out.1.done HF.out.1.closed) (And.intro HF.out.2.2.2.2.1 HL2.out.2)))
              clear HL2 HF HQ
              go_wp2_with fail
              go_roundw
              case rel => exact ⟨i + 1, m + 1, c0 + 1, _, L2, by omega, by go_num, by go_num, by omega, by omega, HP2, HS, HC, HX, HB⟩
              case measure => simp [intOf]; omega
            | cons d Q =>
              obtain ⟨b, o, cap, rfl, q1, q2, q3, q4⟩ := QV.head (x := (d : Int)) (Q := Q.map (fun x : Nat => (x : Int))) HQ.out
              rw [List.length_map] at q2
              simp only [List.length_map] at q3 q4 ⊢
              have hd : d < 480 := (HL2.out.1.2.2.2.1 d (by simp)).mem.1
              have eq0 : decide ((((Q.length + 1 : Nat)) : Int) > 0) = true := decide_eq_true (by omega)
              clear HQ
              go_upto_region 16 with fail
              have hbig2 : 2 * blindN L2 + Q.length ≤ 999 := by simp only [List.length_cons] at hbig; omega
              have HQ6 := Lib.hid (show QV wr B4 (.slice (if cap = 1 then some ⟨b, o, none⟩ else some ⟨b, o + 1, none⟩) Q.length (cap - 1)) (Q.map (fun x : Nat => (x : Int))) from by
                split
                · exact q3 ‹_›
                · exact q4)
              have CB := Lib.hid (l9Beside_new ((d : Int) % 20) ((d : Int) / 20) wr (by omega) (by omega) (by omega) (by omega))
              have HL3 := Lib.hid (And.intro HL2.out.1.pop HL2.out.2)
              clear q1 q2 q3 q4 eq0 HL2
              generalize (if cap = 1 then some (Addr.mk b o none) else some ⟨b, o + 1, none⟩) = av at HQ6 ⊢
              generalize cap - 1 = cp at HQ6 ⊢
              go_wp2_with fail
              refine CB.out.mono ?_
              rintro e w5 ⟨pl, rfl, hl4, hb5⟩
              have HQ7 := Lib.hid (HQ6.out.below hb5)
              have HF7 := Lib.hid (show FarV (.slice av Q.length cp) wr.heap.size w5.heap.size from fun b o n c e => by
                obtain ⟨b', o', c', e', _, h2, _⟩ := HQ6.out
                rw [e] at e'
                cases e'
                exact .inl h2)
              have HS7 := Lib.hid (show OwnB w5 w.heap.size sb 480 480 L2 from World.ownsRow.kept HS.out (grownI_of_below hb5 none) (.inr (by simp [Value.ownBlock])))
              have HC7 := Lib.hid (HC.out.below hb5)
              have HX7 := Lib.hid (HX.out.below hb5)
              have HB7 := Lib.hid (HB.out.trans (hb5.mono HB.out.size))
              have HL7 := Lib.hid hl4
              have hgw := (World.ownsRow.lt HC.out g rfl).2
              obtain ⟨BL, hBL⟩ : ∃ q, wr.heap.size = q := ⟨_, rfl⟩
              obtain ⟨BU, hBU⟩ : ∃ q, w5.heap.size = q := ⟨_, rfl⟩
              have hLU := hb5.size
              rw [hBL] at hgw hLU HF7 HL7
              rw [hBU] at hLU HF7 HL7
              clear hb5 hl4 HQ6 HS HC HX HB CB hBL
              go_wp2_with fail
              go_loopw [8, 11] (fun v jv wz => ∃ (j : Nat) (L3 : List Bool) (Q3 : List Nat), j ≤ 4 ∧ jv = .int .i64 (j : Int) ∧ 2 * blindN L3 + Q3.length ≤ 2 * blindN L2 + Q.length ∧ Hid (Bfs X T c0 L3 Q3 (some (d, j)) ∧ L3.length = 480) ∧ Hid (OwnB wz w.heap.size sb 480 480 L3) ∧ Hid (OwnI wz B3 (some ⟨g, 0, none⟩) N k (cellsK X 480)) ∧ Hid (QV wz B4 v (Q3.map (fun x : Nat => (x : Int)))) ∧ Hid (FarV v BL BU) ∧ Hid (Lies4B wz BL BU pl ((d : Int) % 20) ((d : Int) / 20)) ∧ Hid (BoxF wz w.heap.size [.slice a 24 c] 28) ∧ Hid (Below w.heap.size w wz)) (fun _ jv _ => 4 - (intOf jv).toNat)
              case atStart => exact ⟨0, L2, Q, by omega, rfl, Nat.le_refl _, HL3, HS7, HC7, HQ7, HF7, HL7, HX7, HB7⟩
              case round =>
                clear HL3 HS7 HC7 HQ7 HF7 HL7 HX7 HB7 hBU
                obtain ⟨j, L3, Q3, hj, rfl, hgh, HL3, HS, HC, HQ, HV, HL, HX, HB⟩ := hrel
                by_cases hj4 : j < 4
                · have elj : decide ((j : Int) < 4) = true := decide_eq_true (by omega)
                  obtain ⟨gl, l1, l2, l3, l4, l5, l6, l7⟩ := HL.out.2 j hj4
                  obtain ⟨zx, hzx⟩ : ∃ q, bxZ ((d : Int) % 20) j = q := ⟨_, rfl⟩
                  obtain ⟨zy, hzy⟩ : ∃ q, byZ ((d : Int) / 20) j = q := ⟨_, rfl⟩
                  rw [hzx] at l2
                  rw [hzy] at l3
                  have c1 := HX.out.one.1
                  go_upto_region 20 with fail
                  go_quiet (fail)
                  go_wp2_with fail
                  refine (l9Has_any X HG.out a c zx zy _ ((HR.out.below HB.out).drewN _)).mono ?_
                  rintro e w6 ⟨rfl, hb6⟩
                  have hb6 : Below wr.heap.size wr w6 := (below_drewN (Below.refl _ wr) _).trans hb6
                  have HQ6 := Lib.hid (HQ.out.below hb6)
                  have HS6 := Lib.hid (show OwnB w6 w.heap.size sb 480 480 L3 from World.ownsRow.kept HS.out (grownI_of_below hb6 none) (.inr (by simp [Value.ownBlock])))
                  have HC6 := Lib.hid (HC.out.below hb6)
                  have HX6 := Lib.hid (HX.out.below hb6)
                  have HB6 := Lib.hid (HB.out.trans (hb6.mono HB.out.size))
                  have HL6 := Lib.hid (HL.out.below hb6)
                  have hgw6 := (World.ownsRow.lt HC6.out g rfl).2
                  clear HQ HS HC HX HB HL hb6 c1 l1 l2 l3 l4 l5 l6 l7
                  cases hh : hasZ X zx zy
                  · have HL8 := Lib.hid (And.intro (HL3.out.1.skip (fun b h _ => by rw [hzx, hzy, hh] at h; cases h)) HL3.out.2)
                    clear HL3 hh
                    go_wp2_with fail
                    go_roundw
                    case rel => exact ⟨j + 1, L3, Q3, by omega, by go_num, hgh, HL8, HS6, HC6, HQ6, HV, HL6, HX6, HB6⟩
                    case measure => simp [intOf]; omega
                  · obtain ⟨nb, hbe, hbc, hbn⟩ := nb_to (X := X) (d := d) (j := j) (by rw [hzx, hzy]; exact hh) hj4
                    have hr : (0 ≤ zx ∧ zx ≤ 19) ∧ (0 ≤ zy ∧ zy ≤ 23) := by
                      unfold hasZ at hh
                      simp only [Bool.and_eq_true, decide_eq_true_eq] at hh
                      exact ⟨hh.1, hh.2.1⟩
                    have HPu := Lib.hid (fun h => (HL3.out.1.push (b := nb) HL3.out.2 hbc hbn h))
                    have HSk := Lib.hid (fun (h : seenB L3 nb) => HL3.out.1.skip (j := j) (fun b _ e => by rw [hbe] at e; rw [show b = nb by omega]; exact h))
                    have HLe := Lib.hid HL3.out.2
                    have hbe' := hbe
                    rw [hzx, hzy] at hbe'
                    have HBE := Lib.hid hbe
                    have hnb := hbc.1
                    obtain ⟨v3, hv3⟩ : ∃ v, L3[nb]? = some v := ⟨L3[nb]'(by have := HL3.out.2; omega), List.getElem?_eq_getElem _⟩
                    have p2 := HS6.out.cellAt nb (by omega)
                    rw [List.getElem?_map, hv3, Option.map_some] at p2
                    clear hbe hbc hbn hh HL3
                    clear hzx hzy
                    obtain ⟨ux, rfl⟩ : ∃ u : Nat, zx = u := ⟨zx.toNat, by omega⟩
                    obtain ⟨uy, rfl⟩ : ∃ u : Nat, zy = u := ⟨zy.toNat, by omega⟩
                    obtain rfl : nb = 20 * uy + ux := by omega
                    have hw1 : IntKind.i64.wrap (20 * (uy : Int)) = 20 * (uy : Int) := by simp [IntKind.wrap, IntKind.bits, IntKind.signed]; omega
                    have hx1 : ux ≤ 19 := by omega
                    have hy1 : uy ≤ 23 := by omega
                    have hw2 : IntKind.i64.wrap (20 * (uy : Int) + (ux : Int)) = 20 * (uy : Int) + (ux : Int) := by simp [IntKind.wrap, IntKind.bits, IntKind.signed]; omega
                    clear hr hbe'
                    cases v3
                    · have HPu2 := Lib.hid (HPu.out HBE.out)
                      have hbl := blind_set hv3
                      have HLe2 := Lib.hid (show (L3.set (20 * uy + ux) true).length = 480 by have := HLe.out; simpa using this)
                      have fz := HS6.out.frozenAt (20 * uy + ux)
                      have HO7 := HS6.out.stored (20 * uy + ux) (.bool true)
                      have HS7 := Lib.hid (show OwnB (w6.setCell ⟨sb, 20 * uy + ux, none⟩ (.bool true)) w.heap.size sb 480 480 (L3.set (20 * uy + ux) true) from by unfold OwnB; rw [List.map_set]; exact HO7.1)
                      have HC7 := Lib.hid (HC6.out.kept HO7.2 (by right; simp [Value.ownBlock]; omega))
                      have HX7 := Lib.hid (HX6.out.kept HO7.2 (by intro e; cases e; omega))
                      have HB7 := Lib.hid (HB6.out.grown HO7.2 HB6.out.size (fun q hq => by cases hq; omega))
                      have HQ7 := Lib.hid (HQ6.out.kept HO7.2 (by omega))
                      have HL7 := Lib.hid (HL6.out.kept HO7.2 (fun q hq => by cases hq; omega))
                      have hs7 : (w6.setCell ⟨sb, 20 * uy + ux, none⟩ (.bool true)).heap.size = w6.heap.size := by simp
                      clear HS6 HC6 HX6 HB6 HQ6 HL6 HO7 HPu HSk HBE hv3
                      have HAl := (Below.refl _ (w6.setCell ⟨sb, 20 * uy + ux, none⟩ (.bool true))).alloc (Nat.le_refl _) (.cells #[.int .i64 (20 * (uy : Int) + (ux : Int))] 3 (0, 0))
                      obtain ⟨W7, hW7⟩ : ∃ q, w6.setCell ⟨sb, 20 * uy + ux, none⟩ (.bool true) = q := ⟨_, rfl⟩
                      rw [hW7] at HAl HS7 HC7 HX7 HB7 HQ7 HL7 hs7
                      have HQ8 := HQ7.out.below HAl
                      obtain ⟨qb, qo, qc, rfl, r1, r2, r3, r4, r5⟩ := HQ8
                      rw [List.length_map] at r3
                      simp only [List.length_map] at HV ⊢
                      have hl3 := blind_le L3
                      have hl480 := HLe.out
                      have hBU : BU ≤ W7.heap.size := HL7.out.1
                      have HAL := Lib.hid HAl
                      have HR4 := Lib.hid r4
                      have HR5 := Lib.hid r5
                      clear HAl r4 r5
                      go_wp2_with (at_builtin; refine wpList_append_arg _ rfl _ _ 26 rfl 3 i1 (.int .i64 0) 1 8 Try.underlying26 ji jz0 jz1 jz2 rfl (by decide) qb qo Q3.length qc ((Q3.map (fun x : Nat => (x : Int))).map (Value.int .i64)) rfl (by simp) HR5.out _ 1 1 [.int .i64 (20 * (uy : Int) + (ux : Int))] rfl rfl (by first | exact cell_one_new _ _ _ | (rw [← hs7]; exact cell_one_new _ _ _)) (fun x hx => by simp at hx; subst hx; rfl) (fun hroom j hj => by rw [Nat.mul_one]; simp at hj; subst hj; exact HR4.out Q3.length (by omega)) (by unfold maxLen; omega) (by omega) ?_ ?_)
                      · intro hroom
                        have HQ9 := QV.room (x := 20 * (uy : Int) + (ux : Int)) r1 r2 (by simpa using hroom) HR4.out HR5.out
                        simp only [List.length_map] at HQ9
                        try rw [Nat.mul_one]
                        have hg9 : (W7.alloc (.cells #[.int .i64 (20 * (uy : Int) + (ux : Int))] 3 (0, 0))).grownBy ((W7.alloc (.cells #[.int .i64 (20 * (uy : Int) + (ux : Int))] 3 (0, 0))).setCells qb (qo + Q3.length) [.int .i64 (20 * (uy : Int) + (ux : Int))]) (some qb) := grownBy_set _ _ _ _
                        obtain ⟨W9, hW9⟩ : ∃ q, (W7.alloc (.cells #[.int .i64 (20 * (uy : Int) + (ux : Int))] 3 (0, 0))).setCells qb (qo + Q3.length) [.int .i64 (20 * (uy : Int) + (ux : Int))] = q := ⟨_, rfl⟩
                        rw [hW9] at HQ9 hg9 ⊢
                        have HQ10 := Lib.hid (show QV W9 B4 (.slice (some ⟨qb, qo, none⟩) (Q3.length + 1) qc) ((Q3 ++ [20 * uy + ux]).map (fun x : Nat => (x : Int))) from by simpa using HQ9)
                        have HS9 := Lib.hid (show OwnB W9 w.heap.size sb 480 480 (L3.set (20 * uy + ux) true) from World.ownsRow.kept (World.ownsRow.alloc HS7.out _) hg9 (.inr (by simp [Value.ownBlock]; omega)))
                        have HC9 := Lib.hid (show OwnI W9 B3 (some ⟨g, 0, none⟩) N k (cellsK X 480) from World.ownsRow.kept (World.ownsRow.alloc HC7.out _) hg9 (.inr (by simp [Value.ownBlock]; omega)))
                        have HX9 := Lib.hid ((HX7.out.alloc (.cells #[.int .i64 (20 * (uy : Int) + (ux : Int))] 3 (0, 0))).kept hg9 (by intro e; cases e; omega))
                        have HB9 := Lib.hid ((HB7.out.alloc HB7.out.size (.cells #[.int .i64 (20 * (uy : Int) + (ux : Int))] 3 (0, 0))).grown hg9 (by have := HB7.out.size; simp; omega) (fun q hq => by cases hq; omega))
                        have HL9 := Lib.hid ((HL7.out.below HAL.out).kept hg9 (fun q hq => by cases hq; exact HV.out qb qo _ _ rfl))
                        have HV9 := Lib.hid (show FarV (.slice (some ⟨qb, qo, none⟩) (Q3.length + 1) qc) BL BU from fun b o n c e => by cases e; exact HV.out qb qo _ _ rfl)
                        have HP9 := Lib.hid (And.intro HPu2.out HLe2.out)
                        clear HQ9 HS7 HC7 HX7 HB7 HL7 HV hW9 hg9 HAL HR4 HR5 hW7 HPu2 HLe2 p2 fz
                        go_wp2_with fail
                        go_roundw
                        case rel => exact ⟨j + 1, _, Q3 ++ [20 * uy + ux], by omega, by go_num, by simp only [List.length_append, List.length_cons, List.length_nil]; omega, HP9, HS9, HC9, by simpa using HQ10, by simpa using HV9, HL9, HX9, HB9⟩
                        case measure => simp [intOf]; omega
                      · intro hgrow v9 W9 hown9 hg9
                        have e9 : ((((Q3 ++ [20 * uy + ux]).map (fun x : Nat => (x : Int)))).map (Value.int .i64)) = ((Q3.map (fun x : Nat => (x : Int))).map (Value.int .i64)) ++ [Value.int .i64 (20 * (uy : Int) + (ux : Int))] := by rw [List.map_append, List.map_append]; simp
                        have hown10 : W9.ownsRow (w6.heap.size + 1) 3 1 v9 (Q3.length + 1) ((((Q3 ++ [20 * uy + ux]).map (fun x : Nat => (x : Int)))).map (Value.int .i64)) := by rw [e9, List.map_map]; exact hown9
                        have hsz9 := hg9.size
                        have HQ10 := Lib.hid (show QV W9 B4 v9 ((Q3 ++ [20 * uy + ux]).map (fun x : Nat => (x : Int))) from by
                          obtain ⟨b, o, c, e, h1, h⟩ := QV.own hown10 (by omega)
                          have r3 := r2
                          simp only [World.size_alloc] at r3
                          exact ⟨b, o, c, e, by omega, h⟩)
                        have HV9 := Lib.hid (show FarV v9 BL BU from fun b o n c e => .inr (by
                          have := (World.ownsRow.lt hown10 b (by rw [e]; rfl)).1
                          omega))
                        have HS9 := Lib.hid (show OwnB W9 w.heap.size sb 480 480 (L3.set (20 * uy + ux) true) from World.ownsRow.kept (World.ownsRow.alloc HS7.out _) hg9 (.inr (by simp [Value.ownBlock])))
                        have HC9 := Lib.hid (show OwnI W9 B3 (some ⟨g, 0, none⟩) N k (cellsK X 480) from World.ownsRow.kept (World.ownsRow.alloc HC7.out _) hg9 (.inr (by simp [Value.ownBlock])))
                        have HX9 := Lib.hid ((HX7.out.alloc (.cells #[.int .i64 (20 * (uy : Int) + (ux : Int))] 3 (0, 0))).kept hg9 (by simp))
                        have HB9 := Lib.hid ((HB7.out.alloc HB7.out.size (.cells #[.int .i64 (20 * (uy : Int) + (ux : Int))] 3 (0, 0))).grown hg9 (by have := HB7.out.size; simp; omega) (fun q hq => by cases hq))
                        have HL9 := Lib.hid ((HL7.out.below HAL.out).kept hg9 (fun q hq => by cases hq))
                        have HP9 := Lib.hid (And.intro HPu2.out HLe2.out)
                        clear hown9 hown10 HS7 HC7 HX7 HB7 HL7 HV hg9 HAL HR4 HR5 hW7 HPu2 HLe2 p2 fz
                        go_wp2_with fail
                        go_roundw
                        case rel => exact ⟨j + 1, _, Q3 ++ [20 * uy + ux], by omega, by go_num, by simp only [List.length_append, List.length_cons, List.length_nil]; omega, HP9, HS9, HC9, HQ10, HV9, HL9, HX9, HB9⟩
                        case measure => simp [intOf]; omega
                    · have HL8 := Lib.hid (And.intro (HSk.out hv3) HLe.out)
                      clear HPu HSk hv3
                      go_wp2_with fail
                      go_roundw
                      case rel => exact ⟨j + 1, L3, Q3, by omega, by go_num, hgh, HL8, HS6, HC6, HQ6, HV, HL6, HX6, HB6⟩
                      case measure => simp [intOf]; omega
                · have elj : decide ((j : Int) < 4) = false := decide_eq_false (by omega)
                  have hj5 : j = 4 := by omega
                  subst hj5
                  have HL8 := Lib.hid (And.intro (HL3.out.1.worked hd) HL3.out.2)
                  clear HL3
                  go_wp2_with fail
                  go_roundg (2 * blindN L3 + Q3.length)
                  case rel => exact ⟨L3, Q3, rfl, by simp only [List.length_cons] at hbig; omega, HL8, HS, HC, HQ, HX, HB⟩
                  case measure => simp only [List.length_cons]; omega

        · have HP2 := Lib.hid (And.intro (PieceP.skip PT (fun _ => (HP.out.2.1 c0).1 hb)) (And.intro HP.out.2.1 (And.intro k5 HP.out.2.2.2)))
          clear PT hb k3 k4 k5 k6 hcv HP
          go_wp2_with fail
          go_roundw
          case rel => exact ⟨i + 1, m, c0 + 1, T, L, by omega, by go_num, rfl, by omega, by omega, HP2, HS, HC, HX, HB⟩
          case measure => simp [intOf]; omega
      · have eli : decide ((i : Int) < (N : Int)) = false := decide_eq_false (by omega)
        have hiq : i = N := by omega
        have HP2 := Lib.hid (show PieceP (cellR X) 480 T m from by
          have hrun := HP.out.1.run (480 - q) (fun x h1 h2 hr => absurd hr (fun hr => by
            have e1 := HP.out.2.2.1
            have e2 := HN.out
            obtain ⟨L1, hL1⟩ := cellsK_pre X q (x - q)
            obtain ⟨L2, hL2⟩ := cellsK_pre X (x + 1) (480 - (x + 1))
            rw [show x + 1 + (480 - (x + 1)) = 480 by omega] at hL2
            rw [show q + (x - q) = x by omega] at hL1
            have hx := cellsK_next X x
            rw [if_pos ((cellR_has (by omega)).1 hr)] at hx
            have := congrArg List.length hL1
            have := congrArg List.length hL2
            have := congrArg List.length hx
            simp only [List.length_append, List.length_cons, List.length_nil] at *
            omega))
          rwa [show q + (480 - q) = 480 by omega] at hrun)
        clear HP
        go_wp2_with fail
        go_ret2
        exact ⟨m, rfl, ⟨T, HP2.out⟩, HB.out⟩
end Go.Proofs.Yteekleibddjblaa
