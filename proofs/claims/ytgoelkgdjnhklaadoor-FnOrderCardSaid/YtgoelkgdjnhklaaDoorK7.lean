/- Several small texts in one: RGText2. -/
import Derived.Test.YtgoelkgdjnhklaaDoorKR
import Derived.Test.YtgoelkgdjnhklaaDoorKT
import Derived.IntWalk
import Derived.Deep.RegionLaw
namespace Go.Proofs.YtgoelkgdjnhklaaDoor
open Go.RowKit

theorem infoSt : (Tryd.prog.info? 9).map (fun i => (i.zero, i.size, i.bytes)) = some (some (.string ByteArray.empty), 1, 16) := by kernel_rfl
theorem join_three (a b c : ByteArray) : (⟨(Lib.join (([a, b, c] : List ByteArray).map (·.data.toList)) [32]).toArray⟩ : ByteArray) = a ++ ⟨#[32]⟩ ++ b ++ ⟨#[32]⟩ ++ c := by
  show strOf _ = strOf a.data.toList ++ strOf [32] ++ strOf b.data.toList ++ strOf [32] ++ strOf c.data.toList
  simp only [strOf_append, List.map_cons, List.map_nil, Lib.join_cons, Lib.joinTail, List.flatten_cons, List.flatten_nil, List.append_assoc, List.append_nil]
theorem join_four (a b c d : ByteArray) : (⟨(Lib.join (([a, b, c, d] : List ByteArray).map (·.data.toList)) [32]).toArray⟩ : ByteArray) = a ++ ⟨#[32]⟩ ++ b ++ ⟨#[32]⟩ ++ c ++ ⟨#[32]⟩ ++ d := by
  show strOf _ = strOf a.data.toList ++ strOf [32] ++ strOf b.data.toList ++ strOf [32] ++ strOf c.data.toList ++ strOf [32] ++ strOf d.data.toList
  simp only [strOf_append, List.map_cons, List.map_nil, Lib.join_cons, Lib.joinTail, List.flatten_cons, List.flatten_nil, List.append_assoc, List.append_nil]
/-- strings.Join with a space, over a slice of the call's own. -/
theorem join_own (xs : List ByteArray) (w : World) (B : Nat) (v : Value) (n : Nat) (hn : xs.length = n) (h : w.ownsRow B 9 1 v n (xs.map Value.string)) (h0 : 0 < n) (h1 : n ≤ 10) (hl : ∀ x ∈ xs, x.size ≤ 100) :
    Calls Tryd.prog 168 #[v, .string ⟨#[32]⟩] w fun e w' => e = .returned (.string ⟨(Lib.join (xs.map (·.data.toList)) [32]).toArray⟩) ∧ Below w.heap.size w w' := by
  subst hn
  obtain ⟨g, cap, rfl, _, hlt⟩ := World.ownsRow.form h h0
  have hcap : xs.length ≤ cap := by
    rcases h.2 with ⟨h', _⟩ | ⟨g', cap', cur, h', _, _, h2, _⟩
    · cases h'
    · cases h'; exact h2
  have hlen : (Lib.join (xs.map (·.data.toList)) [32]).length ≤ 140737488355328 := by
    have : ∀ (l : List ByteArray), (∀ x ∈ l, x.size ≤ 100) → (Lib.join (l.map (·.data.toList)) [32]).length ≤ 101 * l.length := by
      intro l hl
      cases l with
      | nil => simp [Lib.join, List.intercalate]
      | cons x r =>
        have ht : ∀ r : List ByteArray, (∀ x ∈ r, x.size ≤ 100) → (Lib.joinTail [32] (r.map (·.data.toList))).length ≤ 101 * r.length := by
          intro r hr
          induction r with
          | nil => simp [Lib.joinTail]
          | cons y r ih =>
            have h1 := ih (fun z hz => hr z (by simp [hz]))
            have h2 : y.data.toList.length ≤ 100 := hr y (by simp)
            simp only [Lib.joinTail, List.map_cons, List.flatten_cons, List.length_append, List.length_cons, List.length_nil] at h1 ⊢
            omega
        have h1 := ht r (fun z hz => hl z (by simp [hz]))
        have h2 : x.data.toList.length ≤ 100 := hl x (by simp)
        rw [List.map_cons, Lib.join_cons, List.length_append, List.length_cons]
        omega
    have := this xs hl
    omega
  exact Tryd.strings_Join g 0 cap xs ⟨#[32]⟩ w (fun j x hj => by
    have hj' : j < xs.length := by
      rcases Nat.lt_or_ge j xs.length with h | h
      · exact h
      · rw [List.getElem?_eq_none h] at hj; cases hj
    rw [Nat.zero_add, World.ownsRow.cellAt h j (by omega), List.getElem?_map, hj]; rfl) hlt (by omega) hcap hlen
theorem att_at {w : World} (h : AttsLie w) (j m : Nat) (hj : j < 3) (hm : m < 2) : ∃ b o, w.cell? ⟨5, j, none⟩ = some (.slice (some ⟨b, o, none⟩) 2 2) ∧ w.cell? ⟨b, o + m, none⟩ = some (.string (attN (j + 1) (m + 1))) := by
  obtain ⟨x, h1, h2⟩ := h j (by omega)
  rw [attsL_two hj] at h1 h2
  obtain ⟨b, o, rfl, _, hc⟩ := h2.2 (by omega)
  refine ⟨b, o, h1, (hc m hm).trans ?_⟩
  rcases (show j = 0 ∨ j = 1 ∨ j = 2 by omega) with rfl | rfl | rfl <;> rcases (show m = 0 ∨ m = 1 by omega) with rfl | rfl <;> rfl
set_option maxHeartbeats 8000000 in
theorem groupText_a (ci j i : Nat) (w : World) (hc : ci < 6) (hj : j < 8) (hi : i < 9) (h : gOkB ((ci : Int) + 1) ((j : Int) + 1) 0 ((i : Int) + 1) = true) (hT : GTabs w) :
    Calls Tryd.prog 150 #[.agg #[.int .i64 ((ci : Int) + 1), .int .i64 ((j : Int) + 1), .int .i64 0, .int .i64 ((i : Int) + 1)]] w fun e w' => e = .returned (.tuple #[.string (artN (ci + 1) (j + 1) ++ ⟨#[32]⟩ ++ kwordN (j + 1) (ci + 1) ++ ⟨#[32]⟩ ++ wordN i), .bool true]) ∧ Below w.heap.size w w' := by
  obtain ⟨i0, hii, hz0, hz1, hz2⟩ := info_parts infoSt
  have K1 := Lib.hid (fun W (hb : Below w.heap.size w W) => validGroup_impl ((ci : Int) + 1) ((j : Int) + 1) 0 ((i : Int) + 1) W true h (hT.2.2.2.below hb))
  have K2 := Lib.hid (fun W (hb : Below w.heap.size w W) => kindWord_impl' j (ci + 1) W hj (by omega) (by omega) (hT.2.2.1.below hb))
  have K3 := Lib.hid (fun W (hb : Below w.heap.size w W) => countWord_impl ci j 0 ((i : Int) + 1) W hc (hT.2.1.below hb))
  have KT := Lib.hid (fun W (hb : Below w.heap.size w W) => (hT.1.below hb) i hi)
  have s1 : (artN (ci + 1) (j + 1)).size ≤ 100 := by have := artN_size (c := ci + 1) (k := j + 1) (by omega) (by omega); omega
  have s2 : (kwordN (j + 1) (ci + 1)).size ≤ 100 := by have := kwordN_size (k := j + 1) (c := ci + 1) (by omega) (by omega); omega
  have s3 : (wordN i).size ≤ 100 := by have := wordN_size hi; omega
  rw [← join_three]
  clear hT h
  have e0 : (((ci + 1 : Nat) : Int)) = (ci : Int) + 1 := by omega
  rw [e0] at K2
  generalize artN (ci + 1) (j + 1) = T1 at *
  generalize kwordN (j + 1) (ci + 1) = T2 at *
  generalize wordN i = T4 at *
  go_enter Tryd.func150, Tryd.ntmps150
  go_wp2_with fail
  refine (K1.out _ ((Below.refl _ w).alloc (Nat.le_refl _) _)).mono ?_
  rintro e w1 ⟨rfl, h1⟩
  have X1 := (Box.new w [.int .i64 ((ci : Int) + 1), .int .i64 ((j : Int) + 1), .int .i64 0, .int .i64 ((i : Int) + 1)] 35).below h1
  have HB1 := Lib.hid (((Below.refl _ w).alloc (Nat.le_refl _) _).trans (h1.mono (by simp)))
  have x0 := X1.2 0 _ rfl
  have x1 := X1.2 1 _ rfl
  have x2 := X1.2 2 _ rfl
  have x3 := X1.2 3 _ rfl
  have HX1 := Lib.hid X1
  clear X1 h1
  go_wp2_with fail
  refine (K2.out _ HB1.out).mono ?_
  rintro e w2 ⟨rfl, rfl⟩
  go_wp2_with fail
  refine (K3.out _ HB1.out).mono ?_
  clear x0 x1 x2 x3
  rintro e w3 ⟨rfl, h3⟩
  have X3 := HX1.out.below h3
  have HB3 := Lib.hid (HB1.out.trans (h3.mono HB1.out.size))
  have HX3 := Lib.hid (X3.alloc (.cells #[.string T1, .string T2] 9 (0, 0)))
  have HB4 := Lib.hid (HB3.out.alloc HB3.out.size (.cells #[.string T1, .string T2] 9 (0, 0)))
  have HO := Lib.hid (World.ownsRow_lit (e := 9) (size := 1) w3 #[.string T1, .string T2] 2 (Nat.le_refl _) (by unfold maxLen; omega) rfl)
  have x0 := HX3.out.2 0 _ rfl
  have x1 := HX3.out.2 1 _ rfl
  have x2 := HX3.out.2 2 _ rfl
  have x3 := HX3.out.2 3 _ rfl
  have ht := KT.out _ HB4.out
  have hz := HX3.out.1
  clear X3 h3 HX1 HB1
  have hw3 : w3.heap.size ≤ (w3.alloc (.cells #[.string T1, .string T2] 9 (0, 0))).heap.size := by simp
  go_wp2_with (at_builtin; refine wpList_append_own _ rfl _ _ 86 rfl w3.heap.size 9 i0 (.string ByteArray.empty) 1 16 Tryd.underlying86 hii hz0 hz1 hz2 rfl (by decide) _ _ _ rfl (HO.out.alloc _) ⟨w3.heap.size + 1, 0, none⟩ 1 1 [.string T4] rfl rfl (by intro q u hq; have := cell_one_new (w3.alloc (.cells #[.string T1, .string T2] 9 (0, 0))) (.string T4) 9 q u hq; rwa [World.size_alloc] at this) (fun x hx => by simp at hx; subst hx; rfl) (by unfold maxLen; omega) (by omega) (by simp; omega) ?_; intro v' w5 hown' hgrow hnil)
  refine (join_own [T1, T2, T4] w5 w3.heap.size v' 3 rfl hown' (by omega) (by omega) (by intro x hx; simp at hx; rcases hx with rfl | rfl | rfl <;> assumption)).mono ?_
  rintro e w6 ⟨rfl, h6⟩
  have hb5 : Below w.heap.size w w5 := (HB4.out.alloc HB4.out.size (.cells #[.string T4] 9 (0, 0))).grown hgrow (by have := HB3.out.size; simp; omega) (fun q hq => by
    have hq' : some w3.heap.size = some q := hq
    cases hq'
    exact HB3.out.size)
  have HB6 := Lib.hid (hb5.trans (h6.mono hb5.size))
  clear hown' hgrow hnil h6 hb5
  go_wp2_with fail
  go_ret2
  exact ⟨rfl, HB6.out⟩
set_option maxRecDepth 100000 in
set_option maxHeartbeats 8000000 in
theorem groupText_b (ci j m i : Nat) (w : World) (hc : ci < 6) (hj : j < 3) (hm : m < 2) (hi : i < 9) (h : gOkB ((ci : Int) + 1) ((j : Int) + 1) ((m : Int) + 1) ((i : Int) + 1) = true) (hT : GTabs w) :
    Calls Tryd.prog 150 #[.agg #[.int .i64 ((ci : Int) + 1), .int .i64 ((j : Int) + 1), .int .i64 ((m : Int) + 1), .int .i64 ((i : Int) + 1)]] w fun e w' => e = .returned (.tuple #[.string (artN (ci + 1) (j + 1) ++ ⟨#[32]⟩ ++ kwordN (j + 1) (ci + 1) ++ ⟨#[32]⟩ ++ attN (j + 1) (m + 1) ++ ⟨#[32]⟩ ++ wordN i), .bool true]) ∧ Below w.heap.size w w' := by
  obtain ⟨i0, hii, hz0, hz1, hz2⟩ := info_parts infoSt
  have K1 := Lib.hid (fun W (hb : Below w.heap.size w W) => validGroup_impl ((ci : Int) + 1) ((j : Int) + 1) ((m : Int) + 1) ((i : Int) + 1) W true h (hT.2.2.2.below hb))
  have K2 := Lib.hid (fun W (hb : Below w.heap.size w W) => kindWord_impl' j (ci + 1) W (by omega) (by omega) (by omega) (hT.2.2.1.below hb))
  have K3 := Lib.hid (fun W (hb : Below w.heap.size w W) => countWord_impl ci j ((m : Int) + 1) ((i : Int) + 1) W hc (hT.2.1.below hb))
  have KT := Lib.hid (fun W (hb : Below w.heap.size w W) => (hT.1.below hb) i hi)
  have s1 : (artN (ci + 1) (j + 1)).size ≤ 100 := by have := artN_size (c := ci + 1) (k := j + 1) (by omega) (by omega); omega
  have s2 : (kwordN (j + 1) (ci + 1)).size ≤ 100 := by have := kwordN_size (k := j + 1) (c := ci + 1) (by omega) (by omega); omega
  have KA := Lib.hid (fun W (hb : Below w.heap.size w W) => (att_at (hT.2.2.2.below hb) j m hj hm))
  have s5 : (attN (j + 1) (m + 1)).size ≤ 100 := by have := attN_size (k := j + 1) (a := m + 1) (by omega) (by omega) (by omega) (by omega); omega
  have ea : (((m : Int) + 1) != 0) = true := by rw [bne_iff_ne]; omega
  have s3 : (wordN i).size ≤ 100 := by have := wordN_size hi; omega
  rw [← join_four]
  clear hT h
  have e0 : (((ci + 1 : Nat) : Int)) = (ci : Int) + 1 := by omega
  rw [e0] at K2
  generalize artN (ci + 1) (j + 1) = T1 at *
  generalize kwordN (j + 1) (ci + 1) = T2 at *
  generalize attN (j + 1) (m + 1) = T3 at *
  generalize wordN i = T4 at *
  go_enter Tryd.func150, Tryd.ntmps150
  go_wp2_with fail
  refine (K1.out _ ((Below.refl _ w).alloc (Nat.le_refl _) _)).mono ?_
  rintro e w1 ⟨rfl, h1⟩
  have X1 := (Box.new w [.int .i64 ((ci : Int) + 1), .int .i64 ((j : Int) + 1), .int .i64 ((m : Int) + 1), .int .i64 ((i : Int) + 1)] 35).below h1
  have HB1 := Lib.hid (((Below.refl _ w).alloc (Nat.le_refl _) _).trans (h1.mono (by simp)))
  have x0 := X1.2 0 _ rfl
  have x1 := X1.2 1 _ rfl
  have x2 := X1.2 2 _ rfl
  have x3 := X1.2 3 _ rfl
  have HX1 := Lib.hid X1
  clear X1 h1
  go_wp2_with fail
  refine (K2.out _ HB1.out).mono ?_
  rintro e w2 ⟨rfl, rfl⟩
  go_wp2_with fail
  refine (K3.out _ HB1.out).mono ?_
  clear x0 x1 x2 x3
  rintro e w3 ⟨rfl, h3⟩
  have X3 := HX1.out.below h3
  have HB3 := Lib.hid (HB1.out.trans (h3.mono HB1.out.size))
  have HX3 := Lib.hid (X3.alloc (.cells #[.string T1, .string T2] 9 (0, 0)))
  have HB4 := Lib.hid (HB3.out.alloc HB3.out.size (.cells #[.string T1, .string T2] 9 (0, 0)))
  have HO := Lib.hid (World.ownsRow_lit (e := 9) (size := 1) w3 #[.string T1, .string T2] 2 (Nat.le_refl _) (by unfold maxLen; omega) rfl)
  have x0 := HX3.out.2 0 _ rfl
  have x1 := HX3.out.2 1 _ rfl
  have x2 := HX3.out.2 2 _ rfl
  have x3 := HX3.out.2 3 _ rfl
  have ht := KT.out _ HB4.out
  have hz := HX3.out.1
  have hx3 : w.heap.size < w3.heap.size := X3.1
  clear X3 h3 HX1 HB1
  have hw3 : w3.heap.size ≤ (w3.alloc (.cells #[.string T1, .string T2] 9 (0, 0))).heap.size := by simp
  obtain ⟨b, o, y1, y2⟩ := KA.out _ HB4.out
  go_wp2_with fail
  generalize hW4 : w3.alloc (.cells #[.string T1, .string T2] 9 (0, 0)) = W4 at *
  have wj : IntKind.i64.wrap (j : Int) = (j : Int) := IntWalk.i64_in _ (by omega)
  have wm : IntKind.i64.wrap (m : Int) = (m : Int) := IntWalk.i64_in _ (by omega)
  have j0 : (0 : Int) ≤ (j : Int) := by omega
  have j8 : (j : Int) < 8 := by omega
  have m0 : (0 : Int) ≤ (m : Int) := by omega
  have m2 : (m : Int) < 2 := by omega
  have HO2 := Lib.hid (show (W4.drew).ownsRow w3.heap.size 9 1 (.slice (some ⟨w3.heap.size, 0, none⟩) 2 2) 2 [.string T1, .string T2] from HO.out)
  have NW := Lib.hid (cell_one_new W4.drew (.string T3) 9)
  have hz4 := HB4.out.size
  have hz3 := HB3.out.size
  have LE : w3.heap.size ≤ (W4.alloc (.cells #[.string T3] 9 (0, 0))).drew.heap.size := by simp; omega
  have HX5 := Lib.hid ((show Box W4.drew w.heap.size [.int .i64 ((ci : Int) + 1), .int .i64 ((j : Int) + 1), .int .i64 ((m : Int) + 1), .int .i64 ((i : Int) + 1)] from HX3.out).alloc (.cells #[.string T3] 9 (0, 0)) |> fun h => (show Box (W4.alloc (.cells #[.string T3] 9 (0, 0))).drew w.heap.size [.int .i64 ((ci : Int) + 1), .int .i64 ((j : Int) + 1), .int .i64 ((m : Int) + 1), .int .i64 ((i : Int) + 1)] from h))
  have HB5 := Lib.hid ((show Below w.heap.size w W4.drew from ⟨HB4.out.os, HB4.out.tape, HB4.out.output, HB4.out.size, HB4.out.block⟩).alloc hz4 (.cells #[.string T3] 9 (0, 0)) |> fun h => (show Below w.heap.size w (W4.alloc (.cells #[.string T3] 9 (0, 0))).drew from ⟨h.os, h.tape, h.output, h.size, h.block⟩))
  go_region_law (refine step_append_lies _ rfl (.tmp 25) (.tmp 36) 86 rfl w3.heap.size 9 i0 (.string ByteArray.empty) 1 16 Tryd.underlying86 hii hz0 hz1 hz2 rfl (by decide) (.slice (some ⟨w3.heap.size, 0, none⟩) 2 2) 2 [.string T1, .string T2] (by simp [Act.eval]) (HO2.out.alloc _) ⟨W4.heap.size, 0, none⟩ 1 1 [.string T3] (by simp [Act.eval]) rfl NW.out (fun x hx => by simp at hx; subst hx; rfl) (by omega) (by unfold maxLen; omega) (by omega) LE _ rfl ?_; intro g cap w5 hown hgrow hat hlt)
  all_goals
    have hgrow2 : (W4.alloc (.cells #[.string T3] 9 (0, 0))).drew.grownBy w5 (some w3.heap.size) := hgrow
    have hb5 : Below w.heap.size w w5 := HB5.out.grown hgrow2 (by simp; omega) (fun q hq => by cases hq; exact hz3)
    have x3 := hgrow2.cell (HX5.out.2 3 _ rfl) (by simp; omega)
    have ht5 := KT.out _ hb5
    have HO5 := Lib.hid (show w5.ownsRow w3.heap.size 9 1 (.slice (some ⟨g, 0, none⟩) 3 cap) 3 [.string T1, .string T2, .string T3] from hown)
    have hz5 := hgrow2.size
    have hl5 : w3.heap.size ≤ w5.heap.size := by simp at hz5; omega
    have HB6 := Lib.hid hb5
    clear hgrow hgrow2 hown hat hb5
    go_wp2_with (at_builtin; refine wpList_append_own _ rfl _ _ 86 rfl w3.heap.size 9 i0 (.string ByteArray.empty) 1 16 Tryd.underlying86 hii hz0 hz1 hz2 rfl (by decide) _ _ _ rfl (HO5.out.alloc _) ⟨w5.heap.size, 0, none⟩ 1 1 [.string T4] rfl rfl (cell_one_new _ _ _) (fun x hx => by simp at hx; subst hx; rfl) (by unfold maxLen; omega) (by omega) (by simp; omega) ?_; intro v' w6 hown' hgrow' hnil)
    refine (join_own [T1, T2, T3, T4] w6 w3.heap.size v' 4 rfl hown' (by omega) (by omega) (by intro x hx; simp at hx; rcases hx with rfl | rfl | rfl | rfl <;> assumption)).mono ?_
    rintro e w7 ⟨rfl, h7⟩
    have hgrow3 : (w5.alloc (.cells #[.string T4] 9 (0, 0))).grownBy w6 (some g) := hgrow'
    have hg3 : w.heap.size ≤ g := by
      rcases HO5.out.2 with ⟨h', _⟩ | ⟨g', cap', cur, h', h'', _⟩
      · cases h'
      · cases h'; omega
    have hb6 : Below w.heap.size w w6 := (HB6.out.alloc HB6.out.size (.cells #[.string T4] 9 (0, 0))).grown hgrow3 (by have := HB6.out.size; simp; omega) (fun q hq => by cases hq; exact hg3)
    have HB7 := Lib.hid (hb6.trans (h7.mono hb6.size))
    clear hown' hgrow' hgrow3 hnil h7 hb6
    go_wp2_with fail
    go_ret2
    exact ⟨rfl, HB7.out⟩
theorem groupText_impl (c k a : Int) (i : Nat) (w : World) (hi : i < 9) (h : gOkB c k a ((i : Int) + 1) = true) (hT : GTabs w) :
    Calls Tryd.prog 150 #[.agg #[.int .i64 c, .int .i64 k, .int .i64 a, .int .i64 ((i : Int) + 1)]] w fun e w' => e = .returned (.tuple #[.string (gtextN c.toNat k.toNat a.toNat i), .bool true]) ∧ Below w.heap.size w w' := by
  obtain ⟨g1, g2, _, g4⟩ := gOk_out h
  obtain ⟨ci, rfl⟩ : ∃ n : Nat, c = (n : Int) + 1 := ⟨(c - 1).toNat, by omega⟩
  obtain ⟨j, rfl⟩ : ∃ n : Nat, k = (n : Int) + 1 := ⟨(k - 1).toNat, by omega⟩
  have e1 : ((ci : Int) + 1).toNat = ci + 1 := by omega
  have e2 : ((j : Int) + 1).toNat = j + 1 := by omega
  rcases g4 with ⟨g5, g6, g7⟩ | ⟨_, rfl⟩
  · obtain ⟨m, rfl⟩ : ∃ n : Nat, a = (n : Int) + 1 := ⟨(a - 1).toNat, by omega⟩
    have e3 : ((m : Int) + 1).toNat = m + 1 := by omega
    rw [e1, e2, e3]
    unfold gtextN bareN
    rw [if_neg (by omega)]
    exact groupText_b ci j m i w (by omega) (by omega) (by omega) hi h hT
  · rw [e1, e2]
    unfold gtextN bareN
    rw [show Int.toNat 0 = 0 from rfl, if_pos rfl]
    exact groupText_a ci j i w (by omega) (by omega) hi h hT
theorem groupText_impl_no (c k a t : Int) (w : World) (h : gOkB c k a t = false) (hA : AttsLie w) :
    Calls Tryd.prog 150 #[.agg #[.int .i64 c, .int .i64 k, .int .i64 a, .int .i64 t]] w fun e w' => e = .returned (.tuple #[.string ⟨#[]⟩, .bool false]) ∧ Below w.heap.size w w' := by
  have K1 := Lib.hid (fun W (hb : Below w.heap.size w W) => validGroup_impl c k a t W false h (hA.below hb))
  clear h hA
  go_enter Tryd.func150, Tryd.ntmps150
  go_wp2_with fail
  refine (K1.out _ ((Below.refl _ w).alloc (Nat.le_refl _) _)).mono ?_
  rintro e w1 ⟨rfl, h1⟩
  have HB1 := Lib.hid (((Below.refl _ w).alloc (Nat.le_refl _) _).trans (h1.mono (by simp)))
  clear h1
  go_wp2_with fail
  go_ret2
  exact ⟨rfl, HB1.out⟩
end Go.Proofs.YtgoelkgdjnhklaaDoor
