/- Several small texts in one: Flat, ArmRow, ArmBest. -/
import Derived.Test.YtpcghkciibbmgaaDoorProg
import Derived.ChangeArms
import Derived.WideShapes
import Derived.WalkKit
import Derived.Test.YtpcghkciibbmgaaDoorArms
import Derived.Test.YtpcghkciibbmgaaDoorG4Tabs
import Derived.Deep.Slices
import Derived.Test.YtpcghkciibbmgaaDoorArms3
namespace Go.Proofs.YtpcghkciibbmgaaDoor

/-- Cell i of a value of this type is an int. -/
def leafB (P : Program) : Nat → TypeId → Nat → Bool
  | 0, _, _ => false
  | k + 1, t, i => match P.underlying t with
    | some (.int .i64) => i == 0
    | some (.struct fs) => (List.range fs.size).any fun j => match fs[j]? with
      | some f => decide (f.offset ≤ i) && decide (i < f.offset + P.cellsOf f.type) && leafB P k f.type (i - f.offset)
      | none => false
    | _ => false
theorem leaf_int {H : Type} {enc : TypeId × Value → H} {P : Program} {w : World} {base : Nat} {sp : Nat → Bool} {held : Bool} : ∀ (k : Nat) {t : TypeId} {i fuel : Nat} {cs : List Value} {x : DataW H × List MemPlace},
    leafB P k t i = true → DataW.trod enc P w base sp held fuel t cs = some x → ∃ z, cs[i]? = some (.int .i64 z) ∧ (Lit.int .i64 z).wf = true := by
  intro k
  induction k with
  | zero => intro t i fuel cs x h _; cases h
  | succ k ih =>
    intro t i fuel cs x h hd
    unfold leafB at h
    split at h
    · next ht =>
      obtain ⟨z, hc, _, hw⟩ := DataW.trod_int ht hd
      have hi : i = 0 := by simpa using h
      subst hi
      exact ⟨z, by rw [hc]; rfl, hw⟩
    · next fs ht =>
      obtain ⟨xs, n, _, _, _, hl, hg⟩ := DataW.trod_struct ht hd
      obtain ⟨j, hj, hb⟩ := List.any_eq_true.1 h
      rw [List.mem_range] at hj
      have hf : fs[j]? = some fs[j] := Array.getElem?_eq_getElem hj
      rw [hf] at hb
      simp only [Bool.and_eq_true, decide_eq_true_eq] at hb
      obtain ⟨⟨h1, h2⟩, h3⟩ := hb
      have h4 := hg j fs[j] hf
      rw [List.getElem?_eq_getElem (show j < xs.length by omega)] at h4
      obtain ⟨z, hz, hw⟩ := ih h3 h4
      refine ⟨z, ?_, hw⟩
      rw [List.getElem?_take_of_lt (by omega), List.getElem?_drop] at hz
      rw [← hz]
      congr 1
      omega
    · cases h
def intCell : Value → Int
  | .int _ z => z
  | _ => 0
theorem flat_ints {H : Type} {enc : TypeId × Value → H} {P : Program} {w : World} {base fuel : Nat} {sp : Nat → Bool} {held : Bool} {t : TypeId} {n : Nat} {cs : Array Value} {x : DataW H × List MemPlace} (k : Nat)
    (hn : cs.size = n) (hl : (List.range n).all (leafB P k t) = true) (hd : DataW.trod enc P w base sp held fuel t cs.toList = some x) :
    ∃ zs : List Int, zs.length = n ∧ cs = (zs.map (Value.int .i64)).toArray ∧ ∀ z ∈ zs, (Lit.int .i64 z).wf = true := by
  have H : ∀ i, i < n → ∃ z, cs.toList[i]? = some (.int .i64 z) ∧ (Lit.int .i64 z).wf = true := fun i hi => leaf_int k (List.all_eq_true.1 hl i (List.mem_range.2 hi)) hd
  refine ⟨cs.toList.map intCell, by simpa using hn, ?_, ?_⟩
  · apply Array.toList_inj.1
    apply List.ext_getElem?
    intro i
    simp only [List.map_map]
    rw [List.getElem?_map]
    by_cases hi : i < n
    · obtain ⟨z, hz, _⟩ := H i hi
      rw [hz]; rfl
    · rw [List.getElem?_eq_none (by simpa using (by omega : cs.size ≤ i))]; rfl
  · intro z hz
    obtain ⟨c, hc, rfl⟩ := List.mem_map.1 hz
    obtain ⟨i, hi⟩ := List.mem_iff_getElem?.1 hc
    have hlt : i < n := by
      rcases Nat.lt_or_ge i n with h | h
      · exact h
      · rw [List.getElem?_eq_none (by simpa using (by omega : cs.size ≤ i))] at hi; cases hi
    obtain ⟨z', hz', hw⟩ := H i hlt
    rw [hi] at hz'
    cases hz'
    exact hw
/-- A parameter that is a struct of n numbers. -/
theorem flat_open {H : Type} {enc : TypeId × Value → H} {P : Program} {w : World} {base b0 : Nat} {r : Reach} {sp : Nat → Bool} {held : Bool} {t : TypeId} {fs : Array Field} {n : Nat} {v : Value} {d : DataW H} {p : List MemPlace} (hs : P.underlying t = some (.struct fs)) (hC : P.cellsOf t = n)
    (hl : (List.range n).all (leafB P 8 t) = true) (hv : Value.okWide P w r b0 t v) (h : DataW.Trod enc P w base sp held t v d p) :
    ∃ zs : List Int, zs.length = n ∧ v = .agg (zs.map (Value.int .i64)).toArray ∧ ∀ z ∈ zs, (Lit.int .i64 z).wf = true := by
  obtain ⟨cs, rfl, hsz⟩ := Go.WideShapes.okWide_struct hs hv
  obtain ⟨fuel, hf⟩ := h
  simp only [Value.cells] at hf
  obtain ⟨zs, h1, h2, h3⟩ := flat_ints 8 (hsz.trans hC) hl hf
  exact ⟨zs, h1, by rw [h2], h3⟩
end Go.Proofs.YtpcghkciibbmgaaDoor
namespace Go.Proofs.YtpcghkciibbmgaaDoor
open Go.RowKit Go.Deep

/-- Arms: fifteen numbers. -/
structure Arm where
  d : Int
  l : Int
  f : Int
  s : Int
  o : Int
  n : Int
  x : Int
  c : Int
  k : Int
  a : Int
  t : Int
  c' : Int
  k' : Int
  a' : Int
  t' : Int

instance : Inhabited Arm := ⟨⟨0, 0, 0, 0, 0, 0, 0, 0, 0, 0, 0, 0, 0, 0, 0⟩⟩
def Arm.ints (A : Arm) : List Int := [A.d, A.l, A.f, A.s, A.o, A.n, A.x, A.c, A.k, A.a, A.t, A.c', A.k', A.a', A.t']
theorem arm_of {zs : List Int} (h : zs.length = 15) : ∃ A : Arm, A.ints = zs := by
  match zs, h with
  | [x0, x1, x2, x3, x4, x5, x6, x7, x8, x9, x10, x11, x12, x13, x14], _ => exact ⟨⟨x0, x1, x2, x3, x4, x5, x6, x7, x8, x9, x10, x11, x12, x13, x14⟩, rfl⟩
/-- The slice of address a and length n reads as these arms; its cells are old ones. -/
def RdA (w : World) (a : Option Addr) (n : Nat) (X : List Arm) : Prop :=
  X.length = n ∧ (0 < n → ∃ b o, a = some ⟨b, o, none⟩ ∧ b < w.heap.size ∧ ∀ k A, X[k]? = some A → ∀ j z, A.ints[j]? = some z → w.cell? ⟨b, o + k * 15 + j, none⟩ = some (.int .i64 z))
theorem RdA.below {w w' : World} {a : Option Addr} {n : Nat} {X : List Arm} (h : RdA w a n X) (hb : Below w.heap.size w w') : RdA w' a n X :=
  ⟨h.1, fun hn => by
    obtain ⟨b, o, e, hlt, hc⟩ := h.2 hn
    exact ⟨b, o, e, Nat.lt_of_lt_of_le hlt hb.size, fun k A hk j z hj => (hb.cell (p := ⟨b, o + k * 15 + j, none⟩) hlt).trans (hc k A hk j z hj)⟩⟩
theorem RdA.drewN {w : World} {a : Option Addr} {n : Nat} {X : List Arm} (h : RdA w a n X) (m : Nat) : RdA (w.drewN m) a n X := h
def IsArms (w : World) (a : Option Addr) (len _cap : Nat) (X : List Arm) : Prop := RdA w a len X ∧ len ≤ maxLen
theorem open_arms {H : Type} {enc : TypeId × Value → H} {P : Program} {w : World} {base : Nat} {sp : Nat → Bool} {held : Bool} {t e : TypeId} {a : Option Addr} {len cap : Nat} {d : DataW H} {p : List MemPlace}
    (ht : P.underlying t = some (.slice e)) (hC : P.cellsOf e = 15) (hl : (List.range 15).all (leafB P 8 e) = true) (h : DataW.Trod enc P w base sp held t (.slice a len cap) d p) : ∃ X, IsArms w a len cap X := by
  obtain ⟨fuel, hf⟩ := h
  simp only [Value.cells] at hf
  rcases open_slice ht hf with ⟨hcs, _⟩ | ⟨a', len', cap', m, n, D, Pl, hcs, hb, hle, hm, hmm, _, hx⟩
  · simp at hcs
    obtain ⟨rfl, rfl, rfl⟩ := hcs
    exact ⟨[], ⟨rfl, fun h => absurd h (by omega)⟩, by omega⟩
  · simp at hcs
    obtain ⟨rfl, rfl, rfl⟩ := hcs
    obtain ⟨b, o, spot⟩ := a'
    have hlm : len ≤ m := by rw [hmm]; split <;> omega
    have each : ∀ i, i < len → ∃ A : Arm, ∀ j z, A.ints[j]? = some z → w.cell? ((⟨b, o, spot⟩ : Addr).add (i * 15) |>.add j) = some (.int .i64 z) := by
      intro i hi
      obtain ⟨cs', h1, h2⟩ := hx i (by omega)
      rw [hC] at h1
      obtain ⟨_, hlen, hcell⟩ := World.cells?_some h1
      obtain ⟨zs, hz, hzs, _⟩ := flat_ints (cs := cs'.toArray) (n := 15) 8 (by simpa using hlen) hl (by simpa using h2)
      obtain ⟨A, hA⟩ := arm_of hz
      refine ⟨A, fun j z hj => ?_⟩
      rw [hA] at hj
      have hj15 : j < 15 := by rw [← hz]; exact (List.getElem?_eq_some_iff.1 hj).1
      rw [hcell j hj15]
      have e : cs' = zs.map (Value.int .i64) := by have := congrArg Array.toList hzs; simpa using this
      rw [e, List.getElem?_map, hj]; rfl
    obtain ⟨F, hF⟩ := choose_lt (α := Arm) (p := fun i A => ∀ j z, A.ints[j]? = some z → w.cell? ((⟨b, o, spot⟩ : Addr).add (i * 15) |>.add j) = some (.int .i64 z)) each
    refine ⟨(List.range len).map F, ⟨by simp, fun hn => ?_⟩, by omega⟩
    have h0 := hF 0 hn 0 (F 0).d rfl
    have hspot : spot = none := by simpa [Addr.add] using World.cell?_spot h0
    subst hspot
    have e : ∀ i j, ((⟨b, o, none⟩ : Addr).add (i * 15) |>.add j) = ⟨b, o + i * 15 + j, none⟩ := fun i j => by rw [addr_add, addr_add]
    refine ⟨b, o, rfl, ?_, fun k A hk j z hj => ?_⟩
    · rw [e] at h0
      exact cellI_lt h0
    · rw [List.getElem?_map] at hk
      have hkl : k < len := by
        rcases Nat.lt_or_ge k len with h | h
        · exact h
        · rw [List.getElem?_eq_none (by simpa using h)] at hk; cases hk
      rw [List.getElem?_eq_getElem (by simpa using hkl)] at hk
      simp at hk
      subst hk
      have := hF k hkl j z hj
      rw [e] at this
      exact this
end Go.Proofs.YtpcghkciibbmgaaDoor
namespace Go.Proofs.YtpcghkciibbmgaaDoor
open Go.RowKit

def Arm.ok (A : Arm) : Bool := aOkB A.d A.l A.f A.s A.o A.n A.x A.c A.k A.a A.t A.c' A.k' A.a' A.t'
def Arm.lay (A : Arm) : Int := layN A.o (gNoB A.c A.k A.a A.t) (gNoB A.c' A.k' A.a' A.t')
def Arm.chg (A : Arm) : Int := A.c + A.c'
/-- Fewer layers, or as many and fewer charges. -/
def Arm.less (A B : Arm) : Bool := if A.lay = B.lay then decide (A.chg < B.chg) else decide (A.lay < B.lay)
/-- The index of the simplest of the first k. -/
def bestN (X : List Arm) : Nat → Nat
  | 0 => 0
  | k + 1 => if (X.getD k default).less (X.getD (bestN X k) default) then k else bestN X k
theorem getA {X : List Arm} {k : Nat} {A : Arm} (h : X[k]? = some A) : X.getD k default = A := by simp [List.getD, h]
theorem bestN_yes {X : List Arm} {k : Nat} {A B : Arm} (hA : X[k]? = some A) (hB : X[bestN X k]? = some B) (h : A.less B = true) : bestN X (k + 1) = k := by
  show (if (X.getD k default).less (X.getD (bestN X k) default) = true then k else bestN X k) = k
  rw [getA hA, getA hB, if_pos h]
theorem bestN_no {X : List Arm} {k : Nat} {A B : Arm} (hA : X[k]? = some A) (hB : X[bestN X k]? = some B) (h : A.less B = false) : bestN X (k + 1) = bestN X k := by
  show (if (X.getD k default).less (X.getD (bestN X k) default) = true then k else bestN X k) = bestN X k
  rw [getA hA, getA hB, if_neg (by rw [h]; simp)]
theorem bestN_lt (X : List Arm) : ∀ k, bestN X k ≤ k
  | 0 => Nat.le_refl _
  | k + 1 => by
    show (if _ then k else bestN X k) ≤ k + 1
    have := bestN_lt X k
    split <;> omega
theorem bestN_in {X : List Arm} : ∀ {k : Nat}, 0 < X.length → k ≤ X.length → bestN X k < X.length
  | 0, h, _ => h
  | k + 1, h, hk => by
    show (if _ then k else bestN X k) < X.length
    have := bestN_in (k := k) h (by omega)
    split <;> omega
theorem less_lay {A B : Arm} (h : A.less B = true) : A.lay ≤ B.lay := by
  unfold Arm.less at h
  split at h
  · omega
  · have := of_decide_eq_true h; omega
theorem not_less {A B : Arm} (h : A.less B = false) : B.lay ≤ A.lay := by
  unfold Arm.less at h
  split at h
  · omega
  · have := of_decide_eq_false h; omega
/-- None of the first k has fewer layers than the simplest one. -/
theorem bestN_min {X : List Arm} : ∀ {k : Nat}, k ≤ X.length → ∀ j, j < k → (X.getD (bestN X k) default).lay ≤ (X.getD j default).lay
  | 0, _, j, h => absurd h (by omega)
  | k + 1, hk, j, hj => by
    have ih := bestN_min (X := X) (k := k) (by omega)
    have e : bestN X (k + 1) = if (X.getD k default).less (X.getD (bestN X k) default) = true then k else bestN X k := rfl
    rw [e]
    by_cases h : (X.getD k default).less (X.getD (bestN X k) default) = true
    · rw [if_pos h]
      by_cases hjk : j = k
      · subst hjk; omega
      · exact Int.le_trans (less_lay h) (ih j (by omega))
    · rw [if_neg h]
      by_cases hjk : j = k
      · subst hjk; exact not_less (by simpa using h)
      · exact ih j (by omega)
theorem atA_of_lt {X : List Arm} {k n : Nat} (hX : X.length = n) (hk : k < n) : ∃ A, X[k]? = some A ∧ A ∈ X :=
  ⟨X[k]'(by omega), List.getElem?_eq_getElem (by omega), List.getElem_mem _⟩
theorem takeA_succ {X : List Arm} {k : Nat} {A : Arm} (h : X[k]? = some A) : X.take (k + 1) = X.take k ++ [A] := by rw [List.take_add_one, h]; rfl
theorem okA_succ {X : List Arm} {k : Nat} {A : Arm} (h : X[k]? = some A) (hk : (X.take k).all Arm.ok = true) (hA : A.ok = true) : (X.take (k + 1)).all Arm.ok = true := by
  rw [takeA_succ h, List.all_append, hk]; simp [hA]
theorem okA_bad {X : List Arm} {k : Nat} {A : Arm} (h : X[k]? = some A) (hA : A.ok = false) : X.all Arm.ok = false := by
  rw [List.all_eq_false]
  exact ⟨A, List.mem_of_getElem? h, by rw [hA]; simp⟩
theorem okA_at {X : List Arm} {k j : Nat} {A : Arm} (h : X[j]? = some A) (hj : j < k) (hk : (X.take k).all Arm.ok = true) : A.ok = true := by
  have h1 : (X.take k)[j]? = some A := by rw [List.getElem?_take_of_lt hj, h]
  exact List.all_eq_true.1 hk A (List.mem_of_getElem? h1)
/-- The answer of Simplest. -/
def simpI (X : List Arm) : Int := if 1 ≤ X.length ∧ X.length ≤ 20 ∧ X.all Arm.ok = true then (bestN X X.length : Nat) else 0
def simpB (X : List Arm) : Bool := decide (1 ≤ X.length ∧ X.length ≤ 20 ∧ X.all Arm.ok = true)
theorem rdA_cells {w : World} {b o : Nat} {A : Arm} (h : ∀ j z, A.ints[j]? = some z → w.cell? ⟨b, o + j, none⟩ = some (.int .i64 z)) : w.cell? ⟨b, o, none⟩ = some (.int .i64 A.d) ∧ w.cell? ⟨b, o + 1, none⟩ = some (.int .i64 A.l) ∧ w.cell? ⟨b, o + 2, none⟩ = some (.int .i64 A.f) ∧ w.cell? ⟨b, o + 3, none⟩ = some (.int .i64 A.s) ∧ w.cell? ⟨b, o + 4, none⟩ = some (.int .i64 A.o) ∧ w.cell? ⟨b, o + 5, none⟩ = some (.int .i64 A.n) ∧ w.cell? ⟨b, o + 6, none⟩ = some (.int .i64 A.x) ∧ w.cell? ⟨b, o + 7, none⟩ = some (.int .i64 A.c) ∧ w.cell? ⟨b, o + 8, none⟩ = some (.int .i64 A.k) ∧ w.cell? ⟨b, o + 9, none⟩ = some (.int .i64 A.a) ∧ w.cell? ⟨b, o + 10, none⟩ = some (.int .i64 A.t) ∧ w.cell? ⟨b, o + 11, none⟩ = some (.int .i64 A.c') ∧ w.cell? ⟨b, o + 12, none⟩ = some (.int .i64 A.k') ∧ w.cell? ⟨b, o + 13, none⟩ = some (.int .i64 A.a') ∧ w.cell? ⟨b, o + 14, none⟩ = some (.int .i64 A.t') :=
  ⟨h 0 _ rfl, h 1 _ rfl, h 2 _ rfl, h 3 _ rfl, h 4 _ rfl, h 5 _ rfl, h 6 _ rfl, h 7 _ rfl, h 8 _ rfl, h 9 _ rfl, h 10 _ rfl, h 11 _ rfl, h 12 _ rfl, h 13 _ rfl, h 14 _ rfl⟩
end Go.Proofs.YtpcghkciibbmgaaDoor
