/- Contract: the draw of a slice of arms. -/
import Derived.Test.YtgoelkgdjnhklaaDoorKO2
import Derived.Test.YtgoelkgdjnhklaaDoorArmBest
import Derived.OwnWalk
import Derived.Laws.OwnMore
import Derived.Deep.LoopGhost
import Derived.Maps.AppendAt
namespace Go.Proofs.YtgoelkgdjnhklaaDoor
open Go.RowKit

theorem infoA6 : (Tryd.prog.info? 37).map (fun i => (i.zero, i.size, i.bytes)) = some (some (.agg #[.int .i64 0, .int .i64 0, .int .i64 0, .int .i64 0, .int .i64 0, .int .i64 0, .int .i64 0, .int .i64 0, .int .i64 0, .int .i64 0, .int .i64 0, .int .i64 0, .int .i64 0, .int .i64 0, .int .i64 0]), 15, 120) := by kernel_rfl
/-- The cells of a row of arms. -/
def cellsA : List Arm → List Value
  | [] => []
  | A :: r => A.ints.map (Value.int .i64) ++ cellsA r
theorem cellsA_len : ∀ X : List Arm, (cellsA X).length = X.length * 15
  | [] => rfl
  | A :: r => by rw [cellsA, List.length_append, List.length_map, cellsA_len r, List.length_cons, show A.ints.length = 15 from rfl]; omega
theorem cellsA_app (X : List Arm) (A : Arm) : cellsA (X ++ [A]) = cellsA X ++ A.ints.map (Value.int .i64) := by
  induction X with
  | nil => simp [cellsA]
  | cons B r ih => rw [List.cons_append, cellsA, ih, cellsA, List.append_assoc]
theorem cellsA_at : ∀ {X : List Arm} {k j : Nat} {A : Arm} {z : Int}, X[k]? = some A → A.ints[j]? = some z → (cellsA X)[k * 15 + j]? = some (.int .i64 z)
  | [], k, _, _, _, h, _ => by simp at h
  | B :: r, 0, j, A, z, h, hj => by
    simp at h
    subst h
    have hl : j < 15 := (List.getElem?_eq_some_iff.1 hj).1
    rw [cellsA, List.getElem?_append_left (by rw [List.length_map, show B.ints.length = 15 from rfl]; omega), show 0 * 15 + j = j by omega, List.getElem?_map, hj]; rfl
  | B :: r, k + 1, j, A, z, h, hj => by
    have e : (k + 1) * 15 + j - (B.ints.map (Value.int .i64)).length = k * 15 + j := by rw [List.length_map, show B.ints.length = 15 from rfl]; omega
    rw [cellsA, List.getElem?_append_right (by rw [List.length_map, show B.ints.length = 15 from rfl]; omega), e]
    exact cellsA_at (by simpa using h) hj
theorem rdA_owned {w : World} {B : Nat} {v : Value} {n : Nat} {X : List Arm} (h : w.ownsRow B 37 15 v n (cellsA X)) (hn : X.length = n) (hv : 0 < n) : ∃ g cap, v = .slice (some ⟨g, 0, none⟩) n cap ∧ RdA w (some ⟨g, 0, none⟩) n X := by
  obtain ⟨g, cap, rfl, _, hlt⟩ := World.ownsRow.form h hv
  refine ⟨g, cap, rfl, hn, fun _ => ⟨g, 0, rfl, hlt, fun k A hk j z hj => ?_⟩⟩
  have hk' : k < X.length := (List.getElem?_eq_some_iff.1 hk).1
  have hj' : j < 15 := (List.getElem?_eq_some_iff.1 hj).1
  rw [Nat.zero_add, World.ownsRow.cellAt h (k * 15 + j) (by omega)]
  exact cellsA_at hk hj
theorem rdA_any {w : World} {B : Nat} {v : Value} {n : Nat} {X : List Arm} (h : w.ownsRow B 37 15 v n (cellsA X)) (hn : X.length = n) : ∃ a cap, v = .slice a n cap ∧ RdA w a n X := by
  rcases Nat.eq_zero_or_pos n with h0 | h0
  · subst h0
    rcases h.2 with ⟨hv, _⟩ | ⟨g, cp, cur, hv, _⟩
    · exact ⟨none, 0, hv, hn, fun h => absurd h (by omega)⟩
    · exact ⟨_, cp, hv, hn, fun h => absurd h (by omega)⟩
  · obtain ⟨g, cp, hv, hr⟩ := rdA_owned h hn h0
    exact ⟨_, cp, hv, hr⟩
theorem own_kept {w w' : World} {B p : Nat} {t : TypeId} {size n : Nat} {v : Value} {xs : List Value} (h : w.ownsRow B t size v n xs) (hg : w.grownBy w' (some p)) (hp : p < B) : w'.ownsRow B t size v n xs :=
  h.kept hg (by cases e : v.ownBlock with
    | none => exact .inl rfl
    | some b => exact .inr (by have := (h.lt b e).1; intro e2; have := Option.some.inj e2; omega))
theorem cell_new15 (W : World) (L : List Value) (t : TypeId) : ∀ j u, L[j]? = some u → (W.alloc (.cells L.toArray t (0, 0))).cell? ((⟨W.heap.size, 0, none⟩ : Addr).add j) = some u := fun j u hj => by
  rw [Addr.add_mid, Nat.zero_add]
  exact ((BoxF.new W L t).at j).trans hj
/-- A row of arms of the call's own, or an empty one. -/
def DrewRow (w : World) (e : Ending) (w' : World) : Prop := ∃ (X : List Arm) (a : Option Addr) (cap : Nat), e = .returned (.slice a X.length cap) ∧ X.length ≤ 7 ∧ RdA w' a X.length X ∧ Below w.heap.size w w'
set_option maxRecDepth 100000 in
set_option maxHeartbeats 8000000 in
theorem drawSimp_any (x : Option Addr) (n cap : Nat) (w : World) (h : RdB w w.heap.size x n) (hn : n ≤ 65536) :
    Calls Tryd.prog 65 #[.slice x n cap] w (DrewRow w) := by
  obtain ⟨i0, hi, hz0, hz1, hz2⟩ := info_parts infoA6
  have hc := isCur_new cap h
  have hB0 : Below w.heap.size w (w.alloc (.cells #[.slice x n cap, .int .i64 0, .int .u64 0] 96 (0, 0))) := (Below.refl _ w).alloc (Nat.le_refl _) _
  have HC0 := Lib.hid (hc.alloc (.cells #[] 37 (0, 0)))
  have HB0 := Lib.hid (hB0.alloc (by simp) (.cells #[] 37 (0, 0)))
  have HO0 := Lib.hid (World.ownsRow_lit (e := 37) (size := 15) (base := w.heap.size + 1) (w.alloc (.cells #[.slice x n cap, .int .i64 0, .int .u64 0] 96 (0, 0))) #[] 0 (by simp) (by unfold maxLen; omega) rfl)
  clear h hc hB0
  go_enter Tryd.func65, Tryd.ntmps65
  go_wp2_with fail
  refine (pick_any w.heap.size w.heap.size x n cap _ _ HC0.out (by omega) hn 6 (by omega) (by omega)).mono ?_
  rintro e w1 ⟨⟨r, rfl, hr0, hr1⟩, hc1, hg1⟩
  have HC1 := Lib.hid hc1
  have HB1 := Lib.hid (HB0.out.grown hg1 (by simp; omega) (fun q hq => by cases hq; omega))
  have HO1 := Lib.hid (HO0.out.kept hg1 (.inr (by simp [Value.ownBlock])))
  clear hc1 hg1 HC0 HB0 HO0
  obtain ⟨rn, rfl⟩ : ∃ rn : Nat, r = (rn : Int) := ⟨r.toNat, by omega⟩
  have hrn : rn ≤ 5 := by omega
  clear hr0 hr1
  go_wp2_with fail
  go_loopg [4, 5] rn (fun gh v i wr => ∃ (X : List Arm) (q : Nat), q = gh ∧ q + X.length = rn ∧ i = .int .i64 (q : Int) ∧ IsCur wr w.heap.size w.heap.size x n cap (10 + 100 * X.length) ∧ wr.ownsRow (w.heap.size + 1) 37 15 v X.length (cellsA X) ∧ Below w.heap.size w wr)
  case atStart => exact ⟨[], rn, rfl, by simp, rfl, HC1.out.mono (by simp), by simpa [cellsA] using HO1.out, HB1.out⟩
  case round =>
    obtain ⟨X, q, rfl, hq, rfl, hc, ho, hb⟩ := hrel
    have HC := Lib.hid hc
    have HO := Lib.hid ho
    have HB := Lib.hid hb
    clear hc ho hb HC1 HB1 HO1
    have hlen := cellsA_len X
    by_cases hlt : 0 < q
    · obtain ⟨gh, rfl⟩ : ∃ gh, q = gh + 1 := ⟨q - 1, by omega⟩
      have e1 : decide ((0 : Int) < ((gh + 1 : Nat) : Int)) = true := decide_eq_true (by omega)
      go_wp2_with fail
      refine (arms_any w.heap.size w.heap.size x n cap _ _ HC.out (by omega) hn).mono ?_
      rintro e w2 ⟨⟨d, l, f, s, o, ln, tn, c, k, a, t, c', k', a', t', rfl⟩, hc2, hg2⟩
      have hsz := HB.out.size
      have hb2 := HB.out.grown hg2 HB.out.size (fun q hq => by cases hq; omega)
      have ho2 := own_kept HO.out hg2 (by omega)
      have hcA := hc2.alloc (.cells #[.int .i64 d, .int .i64 l, .int .i64 f, .int .i64 s, .int .i64 o, .int .i64 ln, .int .i64 tn, .int .i64 c, .int .i64 k, .int .i64 a, .int .i64 t, .int .i64 c', .int .i64 k', .int .i64 a', .int .i64 t'] 37 (0, 0))
      have hbA := hb2.alloc hb2.size (.cells #[.int .i64 d, .int .i64 l, .int .i64 f, .int .i64 s, .int .i64 o, .int .i64 ln, .int .i64 tn, .int .i64 c, .int .i64 k, .int .i64 a, .int .i64 t, .int .i64 c', .int .i64 k', .int .i64 a', .int .i64 t'] 37 (0, 0))
      have HC2 := Lib.hid hcA
      have HB2 := Lib.hid hbA
      have HO2 := Lib.hid ho2
      have hs2 : w.heap.size < w2.heap.size := Nat.lt_of_lt_of_le hc2.lt (Nat.le_refl _)
      clear hc2 hg2 hb2 ho2 hcA hbA HC HO HB hlen
      go_wp2_with (at_builtin; refine wpList_append_own _ rfl _ _ 24 rfl (w.heap.size + 1) 37 i0 _ 15 120 Tryd.underlying24 hi hz0 hz1 hz2 rfl (by decide) _ _ _ rfl (HO2.out.alloc _) ⟨w2.heap.size, 0, none⟩ 1 1 [.int .i64 d, .int .i64 l, .int .i64 f, .int .i64 s, .int .i64 o, .int .i64 ln, .int .i64 tn, .int .i64 c, .int .i64 k, .int .i64 a, .int .i64 t, .int .i64 c', .int .i64 k', .int .i64 a', .int .i64 t'] rfl rfl (cell_new15 w2 [.int .i64 d, .int .i64 l, .int .i64 f, .int .i64 s, .int .i64 o, .int .i64 ln, .int .i64 tn, .int .i64 c, .int .i64 k, .int .i64 a, .int .i64 t, .int .i64 c', .int .i64 k', .int .i64 a', .int .i64 t'] 37) (by simp [Value.oneCell']) (by unfold maxLen; omega) (by omega) (by simp; omega) ?_; intro v' w3 hown' hgrow hnil)
      go_wp2_with fail
      go_roundg gh
      case measure => omega
      case rel =>
        refine ⟨X ++ [⟨d, l, f, s, o, ln, tn, c, k, a, t, c', k', a', t'⟩], gh, rfl, by simp; omega, by go_num, ?_, ?_, ?_⟩
        · refine (HC2.out.kept hgrow (fun k hk => by have := (HO2.out.lt k hk).1; omega)).mono (by simp; omega)
        · rw [cellsA_app, List.length_append, List.length_singleton]
          exact hown'
        · exact HB2.out.grown hgrow (by simp; omega) (fun k hk => by have := (HO2.out.lt k hk).1; omega)
    · obtain rfl : q = 0 := by omega
      go_wp2_with fail
      refine (one_any w.heap.size w.heap.size x n cap _ _ HC.out (by omega) hn 10 (by omega) (by omega)).mono ?_
      rintro e w2 ⟨⟨b, rfl⟩, hc2, hg2⟩
      have hsz := HB.out.size
      have hb2 := HB.out.grown hg2 HB.out.size (fun q hq => by cases hq; omega)
      have ho2 := own_kept HO.out hg2 (by omega)
      cases b
      · clear HC HO HB
        obtain ⟨a, cp, rfl, hr⟩ := rdA_any ho2 rfl
        go_wp2_with fail
        go_ret
        exact ⟨X, a, cp, rfl, by omega, hr, hb2⟩
      · have HC2 := Lib.hid hc2
        have HB2 := Lib.hid hb2
        have HO2 := Lib.hid ho2
        clear hc2 hg2 hb2 ho2 HC HO HB
        go_wp2_with fail
        refine (anyArms_any w.heap.size w.heap.size x n cap _ _ HC2.out (by omega) hn).mono ?_
        rintro e w3 ⟨⟨d, l, f, s, o, ln, tn, c, k, a, t, c', k', a', t', rfl⟩, hc3, hg3⟩
        have hb3 := HB2.out.grown hg3 HB2.out.size (fun q hq => by cases hq; omega)
        have ho3 := own_kept HO2.out hg3 (by omega)
        have HB3 := Lib.hid (hb3.alloc hb3.size (.cells #[.int .i64 d, .int .i64 l, .int .i64 f, .int .i64 s, .int .i64 o, .int .i64 ln, .int .i64 tn, .int .i64 c, .int .i64 k, .int .i64 a, .int .i64 t, .int .i64 c', .int .i64 k', .int .i64 a', .int .i64 t'] 37 (0, 0)))
        have HO3 := Lib.hid ho3
        have hs3 : w.heap.size < w3.heap.size := Nat.lt_of_lt_of_le hc3.lt (Nat.le_refl _)
        clear hc3 hg3 hb3 ho3 HC2 HO2 HB2
        go_wp2_with (at_builtin; refine wpList_append_own _ rfl _ _ 24 rfl (w.heap.size + 1) 37 i0 _ 15 120 Tryd.underlying24 hi hz0 hz1 hz2 rfl (by decide) _ _ _ rfl (HO3.out.alloc _) ⟨w3.heap.size, 0, none⟩ 1 1 [.int .i64 d, .int .i64 l, .int .i64 f, .int .i64 s, .int .i64 o, .int .i64 ln, .int .i64 tn, .int .i64 c, .int .i64 k, .int .i64 a, .int .i64 t, .int .i64 c', .int .i64 k', .int .i64 a', .int .i64 t'] rfl rfl (cell_new15 w3 [.int .i64 d, .int .i64 l, .int .i64 f, .int .i64 s, .int .i64 o, .int .i64 ln, .int .i64 tn, .int .i64 c, .int .i64 k, .int .i64 a, .int .i64 t, .int .i64 c', .int .i64 k', .int .i64 a', .int .i64 t'] 37) (by simp [Value.oneCell']) (by unfold maxLen; omega) (by omega) (by simp; omega) ?_; intro v' w4 hown' hgrow hnil)
        have hown2 : w4.ownsRow (w.heap.size + 1) 37 15 v' (X.length + 1) (cellsA (X ++ [⟨d, l, f, s, o, ln, tn, c, k, a, t, c', k', a', t'⟩])) := by rw [cellsA_app]; exact hown'
        obtain ⟨g, cp, rfl, hr⟩ := rdA_owned (X := X ++ [⟨d, l, f, s, o, ln, tn, c, k, a, t, c', k', a', t'⟩]) hown2 (by simp) (by omega)
        have hb4 := HB3.out.grown hgrow (by simp; omega) (fun k hk => by have := (HO3.out.lt k hk).1; omega)
        clear hown' hown2 hgrow hnil
        go_wp2_with fail
        go_ret
        exact ⟨X ++ [⟨d, l, f, s, o, ln, tn, c, k, a, t, c', k', a', t'⟩], some ⟨g, 0, none⟩, cp, by simp, by simp; omega, by simpa using hr, hb4⟩
end Go.Proofs.YtgoelkgdjnhklaaDoor
