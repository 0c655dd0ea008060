/- Contracts: ParseTincture of the program (a map of the words) and of the model. -/
import Derived.Test.YtklfkdmmclomoaaDoorWords
import Derived.Maps.OwnSet
import Derived.Maps.OwnOps
import Derived.Maps.Views
import Derived.Deep.LoopGhost
namespace Go.Proofs.YtklfkdmmclomoaaDoor
open Go.RowKit

/-- Among the first k words p is the number of s, or 0. -/
def IsParse (k : Nat) (s : ByteArray) (p : Nat) : Prop := (p = 0 ∧ ∀ i, i < k → wordN i ≠ s) ∨ (1 ≤ p ∧ p ≤ k ∧ wordN (p - 1) = s)
theorem isParse_ex (s : ByteArray) : ∀ k : Nat, ∃ p, IsParse k s p := by
  intro k
  induction k with
  | zero => exact ⟨0, .inl ⟨rfl, fun i h => by omega⟩⟩
  | succ k ih =>
    obtain ⟨p, hp⟩ := ih
    by_cases h : wordN k = s
    · exact ⟨k + 1, .inr ⟨by omega, by omega, h⟩⟩
    · rcases hp with ⟨rfl, h1⟩ | ⟨h1, h2, h3⟩
      · refine ⟨0, .inl ⟨rfl, fun i hi => ?_⟩⟩
        by_cases e : i = k
        · rw [e]; exact h
        · exact h1 i (by omega)
      · exact ⟨p, .inr ⟨h1, by omega, h3⟩⟩
theorem isParse_le {k : Nat} {s : ByteArray} {p : Nat} (h : IsParse k s p) : p ≤ k := by
  rcases h with ⟨rfl, _⟩ | ⟨_, h, _⟩ <;> omega
theorem isParse_hit {k : Nat} {s : ByteArray} {p i : Nat} (hk : k ≤ 9) (h : IsParse k s p) (hi : i < k) (hs : wordN i = s) : p = i + 1 := by
  rcases h with ⟨rfl, h1⟩ | ⟨h1, h2, h3⟩
  · exact absurd hs (h1 i hi)
  · have := wordN_inj (i := i) (j := p - 1) (by omega) (by omega) (by rw [hs, h3])
    omega
theorem isParse_miss {k : Nat} {s : ByteArray} {p : Nat} (h : IsParse (k + 1) s p) (hs : wordN k ≠ s) : IsParse k s p := by
  rcases h with ⟨rfl, h1⟩ | ⟨h1, h2, h3⟩
  · exact .inl ⟨rfl, fun i hi => h1 i (by omega)⟩
  · refine .inr ⟨h1, ?_, h3⟩
    rcases Nat.lt_or_ge k p with h4 | h4
    · have e : p = k + 1 := by omega
      subst e
      exact absurd h3 hs
    · exact h4
theorem isParse_end {s : ByteArray} {p : Nat} (h : IsParse 9 s p) (hn : ∀ i, i < 9 → wordN i ≠ s) : p = 0 := by
  rcases h with ⟨rfl, _⟩ | ⟨h1, h2, h3⟩
  · rfl
  · exact absurd h3 (hn _ (by omega))

/-- The map of the first k words. -/
def WordMap (D : DataW Unit) (k : Nat) : Prop := ∀ (s : ByteArray) (p : Nat), IsParse k s p → D.atKey (.string s.data.toList) (.lit (.int .i64 0)) = .lit (.int .i64 (p : Int)) ∧ Maps.has D (.string s.data.toList) = decide (0 < p)
theorem wordMap_zero : WordMap (.map []) 0 := by
  intro s p h
  have := isParse_le h
  obtain rfl : p = 0 := by omega
  exact ⟨rfl, rfl⟩
theorem wordMap_put {D : DataW Unit} {k : Nat} (h : WordMap D k) (hm : Maps.IsMap D) (hk : k < 9) : WordMap (D.put (.string (wordN k).data.toList) (.lit (.int .i64 ((k : Int) + 1)))) (k + 1) := by
  intro s p hp
  by_cases e : wordN k = s
  · have e2 := isParse_hit (by omega) hp (Nat.lt_succ_self k) e
    subst e2
    subst e
    rw [Maps.atKey_put_same hm (show WideAt.IsKeyLit (.string _) from trivial), Maps.has_put_same hm (show WideAt.IsKeyLit (.string _) from trivial)]
    exact ⟨rfl, by simp⟩
  · have hne : Lit.string s.data.toList ≠ Lit.string (wordN k).data.toList := fun h => e (by
      simp only [Lit.string.injEq] at h
      exact (ByteArray.ext (Array.toList_inj.1 h)).symm)
    rw [Maps.atKey_put_other hne, Maps.has_put_other hne]
    exact h s p (isParse_miss hp e)

theorem zeroI (w : World) : (zeroValue 3).run Tryd.prog w = .ok (.int .i64 0) w := by kernel_rfl

theorem run_makeMap_nine (w : World) : (Instr.makeMap 97 (some (.int .i64 9))).run Tryd.prog w = .ok (.map (some w.heap.size)) (w.alloc (.map #[] 0)) := by
  simp [Instr.makeMap, run_underlying Tryd.underlying97, asInt, asIntOf, Result.andThen]
theorem run_index_word (k : Nat) (hk : k < 9) (W : World) : (Instr.index 61 (.agg #[.string (wordN 0), .string (wordN 1), .string (wordN 2), .string (wordN 3), .string (wordN 4), .string (wordN 5), .string (wordN 6), .string (wordN 7), .string (wordN 8)]) (.int .i64 (k : Int))).run Tryd.prog W = .ok (.string (wordN k)) W := by
  rcases (show k = 0 ∨ k = 1 ∨ k = 2 ∨ k = 3 ∨ k = 4 ∨ k = 5 ∨ k = 6 ∨ k = 7 ∨ k = 8 by omega) with rfl | rfl | rfl | rfl | rfl | rfl | rfl | rfl | rfl <;> kernel_rfl

set_option maxRecDepth 100000 in
set_option maxHeartbeats 4000000 in
theorem byWord_any (w : World) (hW : WordsLie w) :
    Calls Tryd.prog 82 #[] w fun e w' => e = .returned (.map (some w.heap.size)) ∧ (∃ D : DataW Unit, w'.ownsMap Tryd.prog 9 (plainElem Tryd.prog 3) w.heap.size 9 D ∧ WordMap D 9) ∧ Below w.heap.size w w' := by
  have hmm := run_makeMap_nine w
  have hW := hW.below ((Below.refl w.heap.size w).alloc (Nat.le_refl _) (.map #[] 0))
  have c0 := hW 0 (by omega)
  have c1 := hW 1 (by omega)
  have c2 := hW 2 (by omega)
  have c3 := hW 3 (by omega)
  have c4 := hW 4 (by omega)
  have c5 := hW 5 (by omega)
  have c6 := hW 6 (by omega)
  have c7 := hW 7 (by omega)
  have c8 := hW 8 (by omega)
  clear hW
  go_enter Tryd.func82, Tryd.ntmps82
  go_wp2_with fail
  clear c0 c1 c2 c3 c4 c5 c6 c7 c8 hmm
  go_loopw [6] (fun i wr => ∃ (k : Nat) (D : DataW Unit), k ≤ 9 ∧ i = .int .i64 k ∧ wr.ownsMap Tryd.prog 9 (plainElem Tryd.prog 3) w.heap.size k D ∧ Hid (WordMap D k) ∧ Below w.heap.size w wr) (fun i _ => 9 - (intOf i).toNat)
  case atStart => exact ⟨0, .map [], by omega, rfl, World.ownsMap_made _ _ _ _, by show WordMap _ _; exact wordMap_zero, (Below.refl _ _).alloc (Nat.le_refl _) _⟩
  case round =>
    obtain ⟨k, D, hk, rfl, hmp, HD, hb⟩ := hrel
    by_cases hlt : k < 9
    · have hix := run_index_word k hlt
      have hkey := Lib.hid (WideMaps.keyOf_string_mk (P := Tryd.prog) (k := 9) Tryd.underlying9 (s := wordN k) (by have := wordN_size hlt; unfold maxLen; omega))
      have HD2 := Lib.hid (wordMap_put HD.out hmp.isMap hlt)
      go_wp2_with (at_mapUpdate; refine wpList_mapUpdate_own _ rfl _ _ _ 97 rfl 9 3 (Maps.string_keyed Tryd.underlying9) Tryd.underlying97 (plainElem (H := Unit) Tryd.prog 3) w.heap.size k _ rfl hmp (by unfold maxLen; omega) _ _ _ rfl rfl hkey.out _ [] (plainElem_int Tryd.underlying3 (WalkArith.wf_i64 (by omega))) ?_; intro w1 hmp1 hgr1)
      go_roundw
      case rel => exact ⟨k + 1, _, by omega, by go_num, hmp1, HD2.out, hb.grown hgr1 hb.size (fun q hq => by cases hq; omega)⟩
      case measure => simp [intOf]; omega
    · go_wp2_with fail
      go_ret
      have e9 : k = 9 := by omega
      subst e9
      exact ⟨rfl, ⟨D, hmp, HD.out⟩, hb⟩
set_option maxHeartbeats 1000000 in
theorem parse_impl (s : ByteArray) (p : Nat) (hs : s.size ≤ 1048576) (hp : IsParse 9 s p) (w : World) (hW : WordsLie w) :
    Calls Tryd.prog 52 #[.string s] w fun e w' => e = .returned (.tuple #[.int .i64 (p : Int), .bool (decide (0 < p))]) ∧ Below w.heap.size w w' := by
  have cc := byWord_any w hW
  have hkey := Lib.hid (WideMaps.keyOf_string_mk (P := Tryd.prog) (k := 9) Tryd.underlying9 (s := s) (by unfold maxLen; omega))
  have HP := Lib.hid hp
  obtain ⟨r, hr⟩ : ∃ r, decide (0 < p) = r := ⟨_, rfl⟩
  rw [hr]
  have HR := Lib.hid hr
  clear hW hp hr
  go_enter Tryd.func52, Tryd.ntmps52
  go_wp2_with fail
  refine cc.mono ?_
  rintro e w1 ⟨rfl, ⟨D, hmp, hD⟩, hb⟩
  have HD := Lib.hid (hD s p HP.out)
  have HH := Lib.hid (HD.out.2.trans HR.out)
  clear cc hD
  go_wp2_with (at_lookup; refine wpList_lookup_own_ok_int _ rfl _ _ 97 rfl 9 3 .i64 (Maps.string_keyed Tryd.underlying9) Tryd.underlying97 Tryd.underlying3 (zeroI _) w.heap.size 9 D rfl hmp _ _ rfl hkey.out ?_; rw [HH.out]; intro c hat hwc; have hc : c = (p : Int) := (by have h1 := hat.symm.trans HD.out.1; simpa using h1); subst hc)
  go_ret2
  exact ⟨rfl, hb⟩
set_option maxHeartbeats 1000000 in
theorem l2Parse_any (s : ByteArray) (p : Nat) (hp : IsParse 9 s p) (w : World) :
    Calls Tryd.prog 90 #[.string s] w fun e w' => e = .returned (.int .i64 (p : Int)) ∧ Below w.heap.size w w' := by
  have HP := Lib.hid hp
  clear hp
  go_enter Tryd.func90, Tryd.ntmps90
  go_wp2_with fail
  go_loopw [3] (fun x wr => ∃ k : Nat, k ≤ 9 ∧ x = .int .i64 ((k : Int) + 1) ∧ Hid (∀ i, i < k → wordN i ≠ s) ∧ Below w.heap.size w wr) (fun x _ => 10 - (intOf x).toNat)
  case atStart => exact ⟨0, by omega, rfl, by show ∀ _, _; intro i hi; omega, Below.refl _ _⟩
  case round =>
    obtain ⟨k, hk, rfl, HT, hb⟩ := hrel
    by_cases hlt : k < 9
    · have cc := l2Word_any k wr hlt
      by_cases hs : wordN k = s
      · have HH := Lib.hid (isParse_hit (by omega) HP.out hlt hs)
        rw [hs] at cc
        clear hs
        go_wp2_with fail
        refine cc.mono ?_
        rintro e w' ⟨rfl, hb2⟩
        clear cc
        go_wp2_with fail
        go_ret
        exact ⟨ret_int (by rw [HH.out]; rfl), hb.trans (hb2.mono hb.size)⟩
      · have HN : Hid (∀ i, i < k + 1 → wordN i ≠ s) := by
          show ∀ _, _
          intro i hi
          by_cases e : i = k
          · rw [e]; exact hs
          · exact HT.out i (by omega)
        obtain ⟨t, ht⟩ : ∃ t, wordN k = t := ⟨_, rfl⟩
        rw [ht] at cc hs
        have e1 := str_ne hs
        clear hs ht
        go_wp2_with fail
        refine cc.mono ?_
        rintro e w' ⟨rfl, hb2⟩
        clear cc
        go_wp2_with fail
        go_roundw
        case rel => exact ⟨k + 1, by omega, by go_num, HN, hb.trans (hb2.mono hb.size)⟩
        case measure => simp [intOf]; omega
    · have HH := Lib.hid (isParse_end HP.out (fun i hi => HT.out i (by omega)))
      go_wp2_with fail
      go_ret
      exact ⟨ret_int (by rw [HH.out]; rfl), hb⟩
end Go.Proofs.YtklfkdmmclomoaaDoor
