/- Several small texts in one: AttsL, RdS, G4Tabs, RGroups. -/
import Derived.Test.YthapidnjioindaaDoorKA
import Derived.Test.YthapidnjioindaaDoorRows
import Derived.LaidMore
import Derived.Stop.LaidErr
import Derived.MakeChecks
import Derived.Lib.LaidTab
import Derived.Below
import Derived.Test.YthapidnjioindaaDoorKC
import Derived.OpenShut
import Derived.Deep.Strs
import Derived.ChangeSlices
import Derived.Test.YthapidnjioindaaDoorKD
namespace Go.Proofs.YthapidnjioindaaDoor

/-- The words of the attitudes of a kind. -/
def attsL (x : Int) : List ByteArray := if x = 1 then [⟨#[114, 97, 109, 112, 97, 110, 116]⟩, ⟨#[112, 97, 115, 115, 97, 110, 116]⟩] else if x = 2 then [⟨#[100, 105, 115, 112, 108, 97, 121, 101, 100]⟩, ⟨#[114, 105, 115, 105, 110, 103]⟩] else if x = 3 then [⟨#[115, 119, 105, 109, 109, 105, 110, 103]⟩, ⟨#[117, 112, 114, 105, 103, 104, 116]⟩] else []
theorem attsL_1 : attsL 1 = [⟨#[114, 97, 109, 112, 97, 110, 116]⟩, ⟨#[112, 97, 115, 115, 97, 110, 116]⟩] := by simp [attsL]
theorem attsL_2 : attsL 2 = [⟨#[100, 105, 115, 112, 108, 97, 121, 101, 100]⟩, ⟨#[114, 105, 115, 105, 110, 103]⟩] := by simp [attsL]
theorem attsL_3 : attsL 3 = [⟨#[115, 119, 105, 109, 109, 105, 110, 103]⟩, ⟨#[117, 112, 114, 105, 103, 104, 116]⟩] := by simp [attsL]
theorem attsL_x {x : Int} (h : x < 1 ∨ 3 < x) : attsL x = [] := by unfold attsL; rw [if_neg (by omega), if_neg (by omega), if_neg (by omega)]
theorem attsL_len (x : Int) : (attsL x).length ≤ 2 := by
  unfold attsL
  split
  · simp
  · split
    · simp
    · split <;> simp
end Go.Proofs.YthapidnjioindaaDoor
namespace Go.Proofs.YthapidnjioindaaDoor
open Go.RowKit

/-- The slice of address a and length n reads as these strings; its cells are old ones. -/
def RdS (w : World) (a : Option Addr) (n : Nat) (xs : List ByteArray) : Prop :=
  xs.length = n ∧ (0 < n → ∃ b o, a = some ⟨b, o, none⟩ ∧ b < w.heap.size ∧ ∀ k, k < n → w.cell? ⟨b, o + k, none⟩ = some (.string (xs.getD k ByteArray.empty)))
theorem RdS.below {w w' : World} {a : Option Addr} {n : Nat} {xs : List ByteArray} (h : RdS w a n xs) (hb : Below w.heap.size w w') : RdS w' a n xs :=
  ⟨h.1, fun hn => by
    obtain ⟨b, o, e, hlt, hc⟩ := h.2 hn
    exact ⟨b, o, e, Nat.lt_of_lt_of_le hlt hb.size, fun k hk => (hb.cell (p := ⟨b, o + k, none⟩) hlt).trans (hc k hk)⟩⟩
theorem RdS.drewN {w : World} {a : Option Addr} {n : Nat} {xs : List ByteArray} (h : RdS w a n xs) (m : Nat) : RdS (w.drewN m) a n xs := h

end Go.Proofs.YthapidnjioindaaDoor
namespace Go.Proofs.YthapidnjioindaaDoor
open Go.RowKit

theorem addr_add (b o i : Nat) : (⟨b, o, none⟩ : Addr).add i = ⟨b, o + i, none⟩ := by unfold Addr.add; split <;> simp_all
theorem strs_of_trod {H : Type} {enc : TypeId × Value → H} {P : Program} {w : World} {base : Nat} {held : Bool} {fuel : Nat} {t e : TypeId} {cs : List Value} {ss : List ByteArray} {p : List MemPlace}
    (ht : P.underlying t = some (.slice e)) (he : P.underlying e = some .string) (hc : P.cellsOf e = 1)
    (h : DataW.trod enc P w base (fun _ => true) held fuel t cs = some (.slice (ss.map fun s => .lit (.string s.data.toList)) [], p)) :
    ∃ a, cs = [.slice a ss.length ss.length] ∧ RdS w a ss.length ss := by
  rcases Deep.open_strs ht he hc h with ⟨_, h0⟩ | ⟨⟨b, o, spot⟩, len, cap, m, Sx, rfl, _, hl, _, hm, hx, hS⟩
  · cases h0
  · simp only [if_true] at hm
    simp only [Prod.mk.injEq, DataW.slice.injEq] at hx
    obtain ⟨⟨h1, h2⟩, _⟩ := hx
    have hlen : ss.length = len := by have := congrArg List.length h1; simpa using this
    have hrest : cap = len := by have := congrArg List.length h2; simp at this; omega
    subst hm
    refine ⟨some ⟨b, o, spot⟩, by rw [hrest, hlen], rfl, fun hn => ?_⟩
    have h0 := (hS 0 (by omega)).1
    have hspot : spot = none := by simpa [Addr.add] using World.cell?_spot h0
    subst hspot
    have hall : ∀ i, i < ss.length → w.cell? ⟨b, o + i, none⟩ = some (.string (ss.getD i ByteArray.empty)) := by
      intro i hi
      have h3 := (hS i (by omega)).1
      have e1 := addr_add b o i
      rw [e1] at h3
      rw [h3]
      have h4 := congrArg (·[i]?) h1
      simp only [List.getElem?_map, List.getElem?_range (show i < len by omega), List.getElem?_eq_getElem hi, Option.map_some, Option.some.injEq, DataW.lit.injEq, Lit.string.injEq] at h4
      have h5 : ss[i] = Sx i := ByteArray.ext (Array.toList_inj.1 h4)
      simp [List.getD, hi, h5]
    refine ⟨b, o, rfl, ?_, hall⟩
    exact World.block_lt_of_cell? w _ (hall 0 hn)
theorem ints_of_trod {H : Type} {enc : TypeId × Value → H} {P : Program} {w : World} {base : Nat} {held : Bool} {fuel : Nat} {t e : TypeId} {cs : List Value} {zs : List Int} {p : List MemPlace}
    (ht : P.underlying t = some (.slice e)) (he : P.underlying e = some (.int .i64)) (hc : P.cellsOf e = 1)
    (h : DataW.trod enc P w base (fun _ => true) held fuel t cs = some (.slice (zs.map fun z => .lit (.int .i64 z)) [], p)) :
    ∃ a, cs = [.slice a zs.length zs.length] ∧ RdI w a zs.length zs := by
  rcases ChangeShapes.open_ints ht he hc h with ⟨_, h0⟩ | ⟨⟨b, o, spot⟩, len, cap, ys, rfl, _, hl, _, hm, hx, hS, _⟩
  · cases h0
  · simp only [if_true] at hm
    simp only [Prod.mk.injEq, DataW.slice.injEq] at hx
    obtain ⟨⟨h1, h2⟩, _⟩ := hx
    have hlen : zs.length = min len ys.length := by have := congrArg List.length h1; simpa [ChangeShapes.lits] using this
    have hrest : ys.length - len = 0 := by have := congrArg List.length h2; simpa [ChangeShapes.lits, eq_comm] using this
    have hy : zs = ys := by
      have h3 : ys.take len = ys := List.take_of_length_le (by omega)
      rw [h3] at h1
      have hinj : ∀ x y : Int, (DataW.lit (.int .i64 x) : DataW H) = .lit (.int .i64 y) → x = y := by intro x y h; cases h; rfl
      apply List.ext_getElem?
      intro i
      have h4 := congrArg (·[i]?) h1
      simp only [ChangeShapes.lits, List.getElem?_map] at h4
      cases hz : zs[i]? <;> cases hy : ys[i]? <;> simp_all
    subst hy
    have hcl : cap = len := by omega
    have hzl : zs.length = len := by omega
    refine ⟨some ⟨b, o, spot⟩, by rw [hcl, hzl], rfl, fun hn => ?_⟩
    have h0 := hS 0 (by omega)
    have hspot : spot = none := by simpa [Addr.add] using World.cell?_spot h0
    subst hspot
    have hall : ∀ i, i < zs.length → w.cell? ⟨b, o + i, none⟩ = some (.int .i64 (zs.getD i 0)) := by
      intro i hi
      have h3 := hS i hi
      have e1 := addr_add b o i
      rwa [e1] at h3
    exact ⟨b, o, rfl, World.block_lt_of_cell? w _ (hall 0 hn), hall⟩
theorem nil_of_trod {H : Type} {enc : TypeId × Value → H} {P : Program} {w : World} {base : Nat} {sp : Nat → Bool} {held : Bool} {fuel : Nat} {t e : TypeId} {cs : List Value} {p : List MemPlace}
    (ht : P.underlying t = some (.slice e)) (h : DataW.trod enc P w base sp held fuel t cs = some (.nil, p)) : cs = [.slice none 0 0] := by
  rcases DataW.trod_slice ht h with ⟨h0, _⟩ | ⟨_, _, _, _, _, _, _, _, h0, _⟩
  · exact h0
  · cases h0

/-- The variable holds, for each of the eight kinds, the slice of its attitudes' words. -/
def AttsLie (w : World) : Prop := ∀ j : Nat, j < 8 → ∃ a, w.cell? ⟨2, j, none⟩ = some (.slice a (attsL ((j : Int) + 1)).length (attsL ((j : Int) + 1)).length) ∧ RdS w a (attsL ((j : Int) + 1)).length (attsL ((j : Int) + 1))
theorem AttsLie.below {w w' : World} (h : AttsLie w) (hb : Below w.heap.size w w') : AttsLie w' := fun j hj => by
  obtain ⟨a, h1, h2⟩ := h j hj
  exact ⟨a, (hb.cell (p := ⟨2, j, none⟩) (World.block_lt_of_cell? w _ h1)).trans h1, h2.below hb⟩
theorem atts_of {rest : List (String × DataW Unit)} {w : World} (h : laidMet Tryd.prog (("loop.example/g00884/impl.attitudeWords", Rows.laid_loop_example_g00884_impl_attitudeWords) :: rest) w) : AttsLie w := by
  obtain ⟨ps, ⟨g', t', cs, fuel, p, q, hg', ht', hvar, hd, _, _⟩, _⟩ := h
  have hg : Tryd.prog.globalNamed "loop.example/g00884/impl.attitudeWords" = some 2 := by kernel_rfl
  have ht : (Tryd.prog.globals[2]?).map (·.type) = some 131 := by kernel_rfl
  obtain rfl := Option.some.inj (hg.symm.trans hg')
  obtain rfl := Option.some.inj (ht.symm.trans ht')
  have hc1 : Tryd.prog.cellsOf 130 = 1 := by kernel_rfl
  obtain ⟨xs, m, _, hx, hcl, hxl, hel⟩ := DataW.trod_array (n := 8) (e := 130) Tryd.underlying131 hd
  have hc8 : cs.toList.length = 8 := hcl.trans (by kernel_rfl)
  rw [hc1] at hel
  have hxs : xs.map (·.1) = [.slice [.lit (.string [114, 97, 109, 112, 97, 110, 116]), .lit (.string [112, 97, 115, 115, 97, 110, 116])] [], .slice [.lit (.string [100, 105, 115, 112, 108, 97, 121, 101, 100]), .lit (.string [114, 105, 115, 105, 110, 103])] [], .slice [.lit (.string [115, 119, 105, 109, 109, 105, 110, 103]), .lit (.string [117, 112, 114, 105, 103, 104, 116])] [], .nil, .nil, .nil, .nil, .nil] := by
    have := congrArg Prod.fst hx
    simp only [Rows.laid_loop_example_g00884_impl_attitudeWords, DataW.agg.injEq] at this
    exact this.symm
  have hdat : ∀ j, j < 8 → ∃ d q, (xs.map (·.1))[j]? = some d ∧ DataW.trod (fun _ => ()) Tryd.prog w 0 (fun _ => true) false m 130 ((cs.toList.drop j).take 1) = some (d, q) := by
    intro j hj
    have h1 : j < xs.length := by omega
    refine ⟨xs[j].1, xs[j].2, by simp [h1], ?_⟩
    have := hel j hj
    rw [Nat.mul_one, List.getElem?_eq_getElem h1] at this
    exact this
  intro j hj
  obtain ⟨d, q, h1, h2⟩ := hdat j hj
  rw [hxs] at h1
  have hcell : ∀ v, (cs.toList.drop j).take 1 = [v] → w.cell? ⟨2, j, none⟩ = some v := by
    intro v hv
    rw [World.var?_cell hg hvar j, ← Array.getElem?_toList]
    have := congrArg (·[0]?) hv
    simpa [List.getElem?_take, List.getElem?_drop] using this
  have hyes : ∀ ss : List ByteArray, d = .slice (ss.map fun s => .lit (.string s.data.toList)) [] → attsL ((j : Int) + 1) = ss → ∃ a, w.cell? ⟨2, j, none⟩ = some (.slice a (attsL ((j : Int) + 1)).length (attsL ((j : Int) + 1)).length) ∧ RdS w a (attsL ((j : Int) + 1)).length (attsL ((j : Int) + 1)) := by
    intro ss hd2 hs
    subst hd2
    rw [hs]
    obtain ⟨a, h3, h4⟩ := strs_of_trod Tryd.underlying130 Tryd.underlying9 (by kernel_rfl) h2
    exact ⟨a, hcell _ h3, h4⟩
  have hno : d = .nil → attsL ((j : Int) + 1) = [] → ∃ a, w.cell? ⟨2, j, none⟩ = some (.slice a (attsL ((j : Int) + 1)).length (attsL ((j : Int) + 1)).length) ∧ RdS w a (attsL ((j : Int) + 1)).length (attsL ((j : Int) + 1)) := by
    intro hd2 hs
    subst hd2
    rw [hs]
    exact ⟨none, hcell _ (nil_of_trod Tryd.underlying130 h2), rfl, fun h => absurd h (Nat.lt_irrefl 0)⟩
  rcases (show j = 0 ∨ j = 1 ∨ j = 2 ∨ j = 3 ∨ j = 4 ∨ j = 5 ∨ j = 6 ∨ j = 7 by omega) with rfl | rfl | rfl | rfl | rfl | rfl | rfl | rfl
  · exact hyes [⟨#[114, 97, 109, 112, 97, 110, 116]⟩, ⟨#[112, 97, 115, 115, 97, 110, 116]⟩] (Option.some.inj h1).symm attsL_1
  · exact hyes [⟨#[100, 105, 115, 112, 108, 97, 121, 101, 100]⟩, ⟨#[114, 105, 115, 105, 110, 103]⟩] (Option.some.inj h1).symm attsL_2
  · exact hyes [⟨#[115, 119, 105, 109, 109, 105, 110, 103]⟩, ⟨#[117, 112, 114, 105, 103, 104, 116]⟩] (Option.some.inj h1).symm attsL_3
  all_goals exact hno (Option.some.inj h1).symm (attsL_x (by omega))
theorem attsH {w : World} (h : laidMetH Tryd.prog [("loop.example/g00884/impl.attitudeWords", Rows.laid_loop_example_g00884_impl_attitudeWords)] w) : AttsLie w := by
  rw [MakeChecks.laidMetH_plain _ _ _ (by kernel_rfl)] at h
  exact atts_of h
end Go.Proofs.YthapidnjioindaaDoor
namespace Go.Proofs.YthapidnjioindaaDoor
open Go.RowKit

theorem isCount_any (x : Int) (w : World) (p : Bool) (hp : decide (1 ≤ x ∧ x ≤ 6) = p) :
    Calls Tryd.prog 62 #[.int .i64 x] w fun e w' => e = .returned (.bool p) ∧ w = w' := by
  obtain ⟨p1, e1⟩ : ∃ p, decide (1 ≤ x) = p := ⟨_, rfl⟩
  obtain ⟨p2, e2⟩ : ∃ p, decide (x ≤ 6) = p := ⟨_, rfl⟩
  have hR : (p1 && p2) = p := by rw [← hp, ← e1, ← e2]; by_cases h : 1 ≤ x <;> by_cases h' : x ≤ 6 <;> simp [h, h']
  clear hp
  subst hR
  cases p1
  all_goals
    go_enter Tryd.func62, Tryd.ntmps62
    go_wp2_with fail
    go_ret
    exact ⟨by first | rfl | simp, rfl⟩
theorem isKind_any (x : Int) (w : World) (p : Bool) (hp : decide (1 ≤ x ∧ x ≤ 8) = p) :
    Calls Tryd.prog 139 #[.int .i64 x] w fun e w' => e = .returned (.bool p) ∧ w = w' := by
  obtain ⟨p1, e1⟩ : ∃ p, decide (1 ≤ x) = p := ⟨_, rfl⟩
  obtain ⟨p2, e2⟩ : ∃ p, decide (x ≤ 8) = p := ⟨_, rfl⟩
  have hR : (p1 && p2) = p := by rw [← hp, ← e1, ← e2]; by_cases h : 1 ≤ x <;> by_cases h' : x ≤ 8 <;> simp [h, h']
  clear hp
  subst hR
  cases p1
  all_goals
    go_enter Tryd.func139, Tryd.ntmps139
    go_wp2_with fail
    go_ret
    exact ⟨by first | rfl | simp, rfl⟩
theorem isT_any (x : Int) (w : World) (p : Bool) (hp : decide (1 ≤ x ∧ x ≤ 9) = p) :
    Calls Tryd.prog 110 #[.int .i64 x] w fun e w' => e = .returned (.bool p) ∧ w = w' := by
  cases p
  · have := of_decide_eq_false hp
    exact isT_no x w (by omega)
  · have := of_decide_eq_true hp
    exact isT_yes x w this.1 this.2
theorem attsL_two {j : Nat} (h : j < 3) : (attsL ((j : Int) + 1)).length = 2 := by
  rcases (show j = 0 ∨ j = 1 ∨ j = 2 by omega) with rfl | rfl | rfl <;> rfl
theorem attsL_nil {j : Nat} (h : 3 ≤ j) : (attsL ((j : Int) + 1)).length = 0 := by rw [attsL_x (by omega)]; rfl

set_option maxHeartbeats 2000000 in
theorem validGroup_early (c k a t : Int) (w : World) (p1 p2 p3 : Bool) (h1 : decide (1 ≤ c ∧ c ≤ 6) = p1) (h2 : decide (1 ≤ k ∧ k ≤ 8) = p2) (h3 : decide (1 ≤ t ∧ t ≤ 9) = p3) (hn : (p1 && (p2 && p3)) = false) :
    Calls Tryd.prog 129 #[.agg #[.int .i64 c, .int .i64 k, .int .i64 a, .int .i64 t]] w fun e w' => e = .returned (.bool false) ∧ Below w.heap.size w w' := by
  have c1 := fun W => isCount_any c W p1 h1
  have c2 := fun W => isKind_any k W p2 h2
  have c3 := fun W => isT_any t W p3 h3
  clear h1 h2 h3
  cases p1
  · go_enter Tryd.func129, Tryd.ntmps129
    go_wp2_with (go_at_call 62; refine (c1 _).mono ?_; rintro e w' ⟨rfl, rfl⟩)
    go_ret
    exact ⟨rfl, (Below.refl _ _).alloc (Nat.le_refl _) _⟩
  · cases p2
    · go_enter Tryd.func129, Tryd.ntmps129
      go_wp2_with (first | (go_at_call 62; refine (c1 _).mono ?_; rintro e w' ⟨rfl, rfl⟩) | (go_at_call 139; refine (c2 _).mono ?_; rintro e w' ⟨rfl, rfl⟩))
      go_ret
      exact ⟨rfl, (Below.refl _ _).alloc (Nat.le_refl _) _⟩
    · cases p3
      · go_enter Tryd.func129, Tryd.ntmps129
        go_wp2_with (first | (go_at_call 62; refine (c1 _).mono ?_; rintro e w' ⟨rfl, rfl⟩) | (go_at_call 139; refine (c2 _).mono ?_; rintro e w' ⟨rfl, rfl⟩) | (go_at_call 110; refine (c3 _).mono ?_; rintro e w' ⟨rfl, rfl⟩))
        go_ret
        exact ⟨rfl, (Below.refl _ _).alloc (Nat.le_refl _) _⟩
      · cases hn
set_option maxHeartbeats 2000000 in
theorem validGroup_late (c : Int) (j : Nat) (a t : Int) (w : World) (n : Nat) (r : Bool) (h1 : 1 ≤ c ∧ c ≤ 6) (h2 : j < 8) (h3 : 1 ≤ t ∧ t ≤ 9) (hn : (n = 2 ∧ j < 3 ∧ decide (1 ≤ a ∧ a ≤ 2) = r) ∨ (n = 0 ∧ (a == 0) = r))
    (hc : ∃ x, w.cell? ⟨2, j, none⟩ = some (.slice x n n)) :
    Calls Tryd.prog 129 #[.agg #[.int .i64 c, .int .i64 ((j : Int) + 1), .int .i64 a, .int .i64 t]] w fun e w' => e = .returned (.bool r) ∧ Below w.heap.size w w' := by
  have c1 := fun W => isCount_any c W true (decide_eq_true h1)
  have c2 := fun W => isKind_any ((j : Int) + 1) W true (decide_eq_true (by omega))
  have c3 := fun W => isT_any t W true (decide_eq_true h3)
  obtain ⟨x, hc⟩ := hc
  have hc' : (w.alloc (.cells #[.int .i64 c, .int .i64 ((j : Int) + 1), .int .i64 a, .int .i64 t] 58 (0, 0))).cell? ⟨2, j, none⟩ = some (.slice x n n) := by
    rw [World.cell?_alloc_lt _ _ _ (World.block_lt_of_cell? w _ hc)]; exact hc
  clear h1 h3 hc
  rcases hn with ⟨rfl, _, hr⟩ | ⟨rfl, hr⟩
  · obtain ⟨q1, e1⟩ : ∃ p, decide (1 ≤ a) = p := ⟨_, rfl⟩
    obtain ⟨q2, e2⟩ : ∃ p, decide (a ≤ 2) = p := ⟨_, rfl⟩
    have hR : (q1 && q2) = r := by rw [← hr, ← e1, ← e2]; by_cases h : 1 ≤ a <;> by_cases h' : a ≤ 2 <;> simp [h, h']
    clear hr
    subst hR
    cases q1
    all_goals
      go_enter Tryd.func129, Tryd.ntmps129
      go_wp2_with (first | (go_at_call 62; refine (c1 _).mono ?_; rintro e w' ⟨rfl, rfl⟩) | (go_at_call 139; refine (c2 _).mono ?_; rintro e w' ⟨rfl, rfl⟩) | (go_at_call 110; refine (c3 _).mono ?_; rintro e w' ⟨rfl, rfl⟩))
      go_ret
      exact ⟨by first | rfl | simp, (Below.refl _ _).alloc (Nat.le_refl _) _⟩
  · go_enter Tryd.func129, Tryd.ntmps129
    go_wp2_with (first | (go_at_call 62; refine (c1 _).mono ?_; rintro e w' ⟨rfl, rfl⟩) | (go_at_call 139; refine (c2 _).mono ?_; rintro e w' ⟨rfl, rfl⟩) | (go_at_call 110; refine (c3 _).mono ?_; rintro e w' ⟨rfl, rfl⟩))
    go_ret
    exact ⟨by first | rfl | (rw [hr]), (Below.refl _ _).alloc (Nat.le_refl _) _⟩
theorem validGroup_impl (c k a t : Int) (w : World) (r : Bool) (hr : gOkB c k a t = r) (hA : AttsLie w) :
    Calls Tryd.prog 129 #[.agg #[.int .i64 c, .int .i64 k, .int .i64 a, .int .i64 t]] w fun e w' => e = .returned (.bool r) ∧ Below w.heap.size w w' := by
  by_cases h : (decide (1 ≤ c ∧ c ≤ 6) && (decide (1 ≤ k ∧ k ≤ 8) && decide (1 ≤ t ∧ t ≤ 9))) = true
  · simp only [Bool.and_eq_true, decide_eq_true_eq] at h
    obtain ⟨h1, h2, h3⟩ := h
    obtain ⟨j, rfl⟩ : ∃ j : Nat, k = (j : Int) + 1 := ⟨(k - 1).toNat, by omega⟩
    obtain ⟨x, hc, _⟩ := hA j (by omega)
    unfold gOkB at hr
    rw [decide_eq_true h1, decide_eq_true h2, decide_eq_true h3, Bool.true_and, Bool.true_and, Bool.true_and] at hr
    by_cases h4 : j < 3
    · rw [if_pos (by omega)] at hr
      rw [attsL_two h4] at hc
      exact validGroup_late c j a t w 2 r h1 (by omega) h3 (.inl ⟨rfl, h4, hr⟩) ⟨x, hc⟩
    · rw [if_neg (by omega)] at hr
      rw [attsL_nil (by omega)] at hc
      exact validGroup_late c j a t w 0 r h1 (by omega) h3 (.inr ⟨rfl, hr⟩) ⟨x, hc⟩
  · have hr0 : r = false := by
      rw [← hr]
      unfold gOkB
      cases h1 : decide (1 ≤ c ∧ c ≤ 6) <;> cases h2 : decide (1 ≤ k ∧ k ≤ 8) <;> cases h3 : decide (1 ≤ t ∧ t ≤ 9) <;> simp_all
    rw [hr0]
    exact validGroup_early c k a t w _ _ _ rfl rfl rfl (by simpa using h)
end Go.Proofs.YthapidnjioindaaDoor
