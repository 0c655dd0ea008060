/- Slices of boxes: what a walk is told of one that came in; the laws' szBoxS and toBoxS. -/
import Derived.Test.YthapidnjioindaaC11X
import Derived.Test.YthapidnjioindaaC11T
import Derived.Test.YthapidnjioindaaFlat
import Derived.Deep.Slices
namespace Go.Proofs.Ythapidnjioindaa
open Go.RowKit Go.Deep

def IsBxs (w : World) (a : Option Addr) (len _cap : Nat) (X : List Bx) : Prop := RdBx w a len X ∧ len ≤ maxLen
theorem bx_of {zs : List Int} (h : zs.length = 3) : ∃ F : Bx, zs = [F.x, F.y, F.n] := by
  match zs, h with
  | [a, b, c], _ => exact ⟨⟨a, b, c⟩, rfl⟩
theorem addr_addB (b o i : Nat) : (⟨b, o, none⟩ : Addr).add i = ⟨b, o + i, none⟩ := by unfold Addr.add; split <;> simp_all
theorem open_bxs {H : Type} {enc : TypeId × Value → H} {P : Program} {w : World} {base : Nat} {sp : Nat → Bool} {held : Bool} {t e : TypeId} {a : Option Addr} {len cap : Nat} {d : DataW H} {p : List MemPlace}
    (ht : P.underlying t = some (.slice e)) (hC : P.cellsOf e = 3) (hl : (List.range 3).all (leafB P 8 e) = true) (h : DataW.Trod enc P w base sp held t (.slice a len cap) d p) : ∃ X, IsBxs w a len cap X := by
  obtain ⟨fuel, hf⟩ := h
  simp only [Value.cells] at hf
  rcases open_slice ht hf with ⟨hcs, _⟩ | ⟨a', len', cap', m, n, D, Pl, hcs, hb, hle, hm, hmm, _, hx⟩
  · simp at hcs
    obtain ⟨rfl, rfl, rfl⟩ := hcs
    exact ⟨[], ⟨rfl, fun h => absurd h (by omega)⟩, by omega⟩
  · simp at hcs
    obtain ⟨rfl, rfl, rfl⟩ := hcs
    obtain ⟨b, o, spot⟩ := a'
    have hlm : len ≤ m := by rw [hmm]; split <;> omega
    have each : ∀ i, i < len → ∃ F : Bx, ∀ j z, [F.x, F.y, F.n][j]? = some z → w.cell? ((⟨b, o, spot⟩ : Addr).add (i * 3) |>.add j) = some (.int .i64 z) := by
      intro i hi
      obtain ⟨cs', h1, h2⟩ := hx i (by omega)
      rw [hC] at h1
      obtain ⟨_, hlen, hcell⟩ := World.cells?_some h1
      obtain ⟨zs, hz, hzs, _⟩ := flat_ints (cs := cs'.toArray) (n := 3) 8 (by simpa using hlen) hl (by simpa using h2)
      obtain ⟨F, hF⟩ := bx_of hz
      refine ⟨F, fun j z hj => ?_⟩
      rw [← hF] at hj
      have hj3 : j < 3 := by rw [← hz]; exact (List.getElem?_eq_some_iff.1 hj).1
      rw [hcell j hj3]
      have e : cs' = zs.map (Value.int .i64) := by have := congrArg Array.toList hzs; simpa using this
      rw [e, List.getElem?_map, hj]; rfl
    obtain ⟨F, hF⟩ := choose_lt (α := Bx) (p := fun i F => ∀ j z, [F.x, F.y, F.n][j]? = some z → w.cell? ((⟨b, o, spot⟩ : Addr).add (i * 3) |>.add j) = some (.int .i64 z)) each
    refine ⟨(List.range len).map F, ⟨by simp, fun hn => ?_⟩, by omega⟩
    have h0 := hF 0 hn 0 (F 0).x rfl
    have hspot : spot = none := by simpa [Addr.add] using World.cell?_spot h0
    subst hspot
    have e : ∀ i j, ((⟨b, o, none⟩ : Addr).add (i * 3) |>.add j) = ⟨b, o + i * 3 + j, none⟩ := fun i j => by rw [addr_addB, addr_addB]
    refine ⟨b, o, rfl, ?_, fun k G hk => ?_⟩
    · rw [e] at h0
      exact cellI_lt h0
    · rw [List.getElem?_map] at hk
      have hkl : k < len := by
        rcases Nat.lt_or_ge k len with h | h
        · exact h
        · rw [List.getElem?_eq_none (by simpa using h)] at hk; cases hk
      rw [List.getElem?_eq_getElem (by simpa using hkl)] at hk
      simp at hk
      subst hk
      have q := fun j z (hj : [(F k).x, (F k).y, (F k).n][j]? = some z) => hF k hkl j z hj
      have q0 := q 0 _ rfl
      have q1 := q 1 _ rfl
      have q2 := q 2 _ rfl
      rw [e] at q0 q1 q2
      exact ⟨q0, q1, q2⟩
theorem szBox_any (n : Nat) (a : Option Addr) (c : Nat) (w : World) (hn : n ≤ 1048576) :
    Calls Try.prog 14 #[.slice a n c, .int .i64 1048576] w fun e w' => e = .returned (.int .i64 (1048576 - (n : Int))) ∧ w = w' := by
  have ew : IntKind.i64.wrap (1048576 - (n : Int)) = 1048576 - (n : Int) := IntWalk.i64_in _ (by omega)
  have e1 : decide (1048576 - (n : Int) < 0) = false := by simp; omega
  go_enter Try.func14, Try.ntmps14
  go_wp2_with fail
  go_ret
  exact ⟨rfl, rfl⟩
theorem szBox_big (n : Nat) (a : Option Addr) (c : Nat) (w : World) (hn : 1048576 < n) (hm : n ≤ maxLen) :
    Calls Try.prog 14 #[.slice a n c, .int .i64 1048576] w fun e w' => e = .returned (.int .i64 (-1)) ∧ w = w' := by
  have ew : IntKind.i64.wrap (1048576 - (n : Int)) = 1048576 - (n : Int) := IntWalk.i64_in _ (by unfold maxLen at hm; omega)
  have e1 : decide (1048576 - (n : Int) < 0) = true := by simp; omega
  go_enter Try.func14, Try.ntmps14
  go_wp2_with fail
  go_ret
  exact ⟨rfl, rfl⟩
/-- The first k boxes stand in the cells. -/
def FillB (X : List Bx) (k : Nat) (C : List Value) : Prop := ∀ i F, i < k → X[i]? = some F → C[i * 3]? = some (.int .i64 F.x) ∧ C[i * 3 + 1]? = some (.int .i64 F.y) ∧ C[i * 3 + 2]? = some (.int .i64 F.n)
theorem FillB.step {X : List Bx} {k : Nat} {C : List Value} {F : Bx} (h : FillB X k C) (hC : k * 3 + 2 < C.length) (hF : X[k]? = some F) : FillB X (k + 1) (((C.set (k * 3) (.int .i64 F.x)).set (k * 3 + 1) (.int .i64 F.y)).set (k * 3 + 2) (.int .i64 F.n)) := fun i G hi hG => by
  by_cases e : i = k
  · subst e
    rw [hF] at hG
    cases hG
    simp [List.getElem?_set]
    omega
  · obtain ⟨c0, c1, c2⟩ := h i G (by omega) hG
    simp only [List.getElem?_set]
    rw [if_neg (by omega), if_neg (by omega), if_neg (by omega), if_neg (by omega), if_neg (by omega), if_neg (by omega), if_neg (by omega), if_neg (by omega), if_neg (by omega)]
    exact ⟨c0, c1, c2⟩
set_option maxRecDepth 100000 in
set_option maxHeartbeats 8000000 in
theorem toBoxS_any (X : List Bx) (n : Nat) (a : Option Addr) (c : Nat) (w : World) (h : RdBx w a n X) (hn : n ≤ 1048576) :
    Calls Try.prog 16 #[.slice a n c] w fun e w' => ∃ g : Nat, e = .returned (.slice (some ⟨g, 0, none⟩) n n) ∧ RdBx w' (some ⟨g, 0, none⟩) n X ∧ Below w.heap.size w w' := by
  obtain ⟨i0, hi, hz0, hz1, hz2⟩ := info_parts infoBx
  have HXl := Lib.hid h.1
  rcases Nat.eq_zero_or_pos n with hz | hz
  · subst hz
    have hX0 : X = [] := List.eq_nil_of_length_eq_zero h.1
    have HX := Lib.hid hX0
    clear h hX0
    go_enter Try.func16, Try.ntmps16
    go_wp2_with (at_make; refine wpList_make_full _ rfl _ _ 41 rfl w.heap.size 25 i0 (.agg #[.int .i64 0, .int .i64 0, .int .i64 0]) 3 Try.underlying41 hi hz0 hz1 .i64 .i64 0 0 0 rfl rfl rfl rfl (by rw [hz2]; omega) (by unfold maxLen; omega) (Nat.le_refl _) ?_; intro w1 hown1 hgr1)
    refine wp_loop_rounds 1 ?_
    rw [rounds_succ]
    go_wp2_with fail
    go_ret
    exact ⟨_, rfl, ⟨by rw [HX.out]; rfl, fun h => absurd h (by omega)⟩, (Below.refl _ _).grown hgr1 (Nat.le_refl _) (by simp)⟩
  · obtain ⟨b, o, rfl, hb0, hc⟩ := h.2 hz
    have HC := Lib.hid hc
    have CT := Lib.hid (fun (F : Bx) W => toBox_any F.x F.y F.n W)
    clear h hc
    go_enter Try.func16, Try.ntmps16
    go_wp2_with (at_make; refine wpList_make_full _ rfl _ _ 41 rfl w.heap.size 25 i0 (.agg #[.int .i64 0, .int .i64 0, .int .i64 0]) 3 Try.underlying41 hi hz0 hz1 .i64 .i64 (n : Int) (n : Int) n rfl rfl rfl rfl (by rw [hz2]; omega) (by unfold maxLen; omega) (Nat.le_refl _) ?_; intro w1 hown1 hgr1)
    have hbel : Below w.heap.size w w1 := (Below.refl _ _).grown hgr1 (Nat.le_refl _) (by simp)
    obtain ⟨C0, hC0⟩ : ∃ C0, w1.ownsRow w.heap.size 25 3 (.slice (some ⟨w.heap.size, 0, none⟩) n n) n C0 := ⟨_, hown1⟩
    clear hown1 hgr1
    go_loopg [4] n (fun gh i wr => ∃ (k : Nat) (C : List Value), k + gh = n ∧ i = .int .i64 k ∧ wr.ownsRow w.heap.size 25 3 (.slice (some ⟨w.heap.size, 0, none⟩) n n) n C ∧ Hid (FillB X k C) ∧ Below w.heap.size w wr)
    case atStart => exact ⟨0, C0, by omega, rfl, hC0, Lib.hid (fun i F h => by omega), hbel⟩
    case round =>
      clear hC0 hbel
      obtain ⟨k, C, hk, rfl, ho, HF, hb⟩ := hrel
      by_cases hlt : k < n
      · obtain ⟨gh, rfl⟩ : ∃ gh, gk = gh + 1 := ⟨gk - 1, by omega⟩
        obtain ⟨F, hFk⟩ := atB_of_lt HXl.out hlt
        obtain ⟨x0, x1, x2⟩ := HC.out k F hFk
        have x0 := (hb.cell (p := ⟨b, o + k * 3, none⟩) hb0).trans x0
        have x1 := (hb.cell (p := ⟨b, o + k * 3 + 1, none⟩) hb0).trans x1
        have x2 := (hb.cell (p := ⟨b, o + k * 3 + 2, none⟩) hb0).trans x2
        have HO := Lib.hid ho
        have HB := Lib.hid hb
        have HFk := Lib.hid hFk
        clear hFk ho hb
        go_wp2_with fail
        refine (CT.out F _).mono ?_
        rintro e w2 ⟨rfl, g2⟩
        have ho := World.ownsRow.kept (row := none) HO.out ⟨g2.os, g2.tape, g2.output, g2.size, fun i hi _ => g2.block i hi⟩ (by simp [Value.ownBlock])
        have HB2 := Lib.hid (HB.out.trans (g2.mono HB.out.size))
        have hlen : C.length = n * 3 := by have := ho.1; omega
        have HFN := Lib.hid (HF.out.step (by omega) HFk.out)
        have m0 := ho.stored (k * 3) (.int .i64 F.x)
        have m1 := m0.1.stored (k * 3 + 1) (.int .i64 F.y)
        have m2 := m1.1.stored (k * 3 + 2) (.int .i64 F.n)
        obtain ⟨u0, hu0⟩ : ∃ u, C[k * 3]? = some u := ⟨_, List.getElem?_eq_getElem (show k * 3 < C.length by omega)⟩
        obtain ⟨u1, hu1⟩ : ∃ u, (C.set (k * 3) (.int .i64 F.x))[k * 3 + 1]? = some u := ⟨_, List.getElem?_eq_getElem (show k * 3 + 1 < (C.set (k * 3) (.int .i64 F.x)).length by simp; omega)⟩
        obtain ⟨u2, hu2⟩ : ∃ u, ((C.set (k * 3) (.int .i64 F.x)).set (k * 3 + 1) (.int .i64 F.y))[k * 3 + 2]? = some u := ⟨_, List.getElem?_eq_getElem (show k * 3 + 2 < ((C.set (k * 3) (.int .i64 F.x)).set (k * 3 + 1) (.int .i64 F.y)).length by simp; omega)⟩
        have hc0 := (ho.cellAt (k * 3) (by omega)).trans hu0
        have hf0 := ho.frozenAt (k * 3)
        have hc1 := (m0.1.cellAt (k * 3 + 1) (by omega)).trans hu1
        have hf1 := m0.1.frozenAt (k * 3 + 1)
        have hc2 := (m1.1.cellAt (k * 3 + 2) (by omega)).trans hu2
        have hf2 := m1.1.frozenAt (k * 3 + 2)
        have k1 := ho.cellAt (k * 3 + 1) (by omega)
        have k2 := ho.cellAt (k * 3 + 2) (by omega)
        obtain ⟨t1, ht1⟩ : ∃ u, C[k * 3 + 1]? = some u := ⟨_, List.getElem?_eq_getElem (show k * 3 + 1 < C.length by omega)⟩
        obtain ⟨t2, ht2⟩ : ∃ u, C[k * 3 + 2]? = some u := ⟨_, List.getElem?_eq_getElem (show k * 3 + 2 < C.length by omega)⟩
        rw [ht1] at k1
        rw [ht2] at k2
        have g1 := ho.frozenAt (k * 3 + 1)
        have g2 := ho.frozenAt (k * 3 + 2)
        have HM := Lib.hid (And.intro m2.1 (m0.2.trans (m1.2.trans m2.2)))
        clear m0 m1 m2 hu0 hu1 hu2 ht1 ht2 hlen ho x0 x1 x2 HO HB HF
        go_wp2_with fail
        go_roundg gh
        case measure => omega
        case rel => exact ⟨k + 1, _, by omega, by go_num, HM.out.1, HFN, HB2.out.grown HM.out.2 HB2.out.size (fun q hq => by cases hq; omega)⟩
      · obtain rfl : k = n := by omega
        have HO := Lib.hid ho
        have HB := Lib.hid hb
        clear ho hb
        go_wp2_with fail
        go_ret
        exact ⟨_, rfl, ⟨HXl.out, fun _ => ⟨w.heap.size, 0, rfl, (World.ownsRow.lt HO.out _ rfl).2, fun i F hF => by
          have hil : i < k := by have := (List.getElem?_eq_some_iff.1 hF).1; have := HXl.out; omega
          obtain ⟨c0, c1, c2⟩ := HF.out i F hil hF
          rw [Nat.zero_add]
          exact ⟨(HO.out.cellAt (i * 3) (by omega)).trans c0, (HO.out.cellAt (i * 3 + 1) (by omega)).trans c1, (HO.out.cellAt (i * 3 + 2) (by omega)).trans c2⟩⟩⟩, HB.out⟩
end Go.Proofs.Ythapidnjioindaa
