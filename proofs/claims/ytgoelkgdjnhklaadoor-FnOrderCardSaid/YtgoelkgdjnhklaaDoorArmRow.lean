/- Slices of arms: what a walk is told of one that came in, and of one of the call's own. -/
import Derived.Test.YtgoelkgdjnhklaaDoorK1
import Derived.Test.YtgoelkgdjnhklaaDoorFlat
import Derived.Test.YtgoelkgdjnhklaaDoorKG
import Derived.Deep.Slices
namespace Go.Proofs.YtgoelkgdjnhklaaDoor
open Go.RowKit Go.Deep

/-- Arms: fifteen numbers. -/
structure Arm where
  d : Int
  l : Int
  f : Int
  s : Int
  o : Int
  n : Int
  x : Int
  c : Int
  k : Int
  a : Int
  t : Int
  c' : Int
  k' : Int
  a' : Int
  t' : Int

instance : Inhabited Arm := ⟨⟨0, 0, 0, 0, 0, 0, 0, 0, 0, 0, 0, 0, 0, 0, 0⟩⟩
def Arm.ints (A : Arm) : List Int := [A.d, A.l, A.f, A.s, A.o, A.n, A.x, A.c, A.k, A.a, A.t, A.c', A.k', A.a', A.t']
theorem arm_of {zs : List Int} (h : zs.length = 15) : ∃ A : Arm, A.ints = zs := by
  match zs, h with
  | [x0, x1, x2, x3, x4, x5, x6, x7, x8, x9, x10, x11, x12, x13, x14], _ => exact ⟨⟨x0, x1, x2, x3, x4, x5, x6, x7, x8, x9, x10, x11, x12, x13, x14⟩, rfl⟩
/-- The slice of address a and length n reads as these arms; its cells are old ones. -/
def RdA (w : World) (a : Option Addr) (n : Nat) (X : List Arm) : Prop :=
  X.length = n ∧ (0 < n → ∃ b o, a = some ⟨b, o, none⟩ ∧ b < w.heap.size ∧ ∀ k A, X[k]? = some A → ∀ j z, A.ints[j]? = some z → w.cell? ⟨b, o + k * 15 + j, none⟩ = some (.int .i64 z))
theorem RdA.below {w w' : World} {a : Option Addr} {n : Nat} {X : List Arm} (h : RdA w a n X) (hb : Below w.heap.size w w') : RdA w' a n X :=
  ⟨h.1, fun hn => by
    obtain ⟨b, o, e, hlt, hc⟩ := h.2 hn
    exact ⟨b, o, e, Nat.lt_of_lt_of_le hlt hb.size, fun k A hk j z hj => (hb.cell (p := ⟨b, o + k * 15 + j, none⟩) hlt).trans (hc k A hk j z hj)⟩⟩
theorem RdA.drewN {w : World} {a : Option Addr} {n : Nat} {X : List Arm} (h : RdA w a n X) (m : Nat) : RdA (w.drewN m) a n X := h
def IsArms (w : World) (a : Option Addr) (len _cap : Nat) (X : List Arm) : Prop := RdA w a len X ∧ len ≤ maxLen
theorem open_arms {H : Type} {enc : TypeId × Value → H} {P : Program} {w : World} {base : Nat} {sp : Nat → Bool} {held : Bool} {t e : TypeId} {a : Option Addr} {len cap : Nat} {d : DataW H} {p : List MemPlace}
    (ht : P.underlying t = some (.slice e)) (hC : P.cellsOf e = 15) (hl : (List.range 15).all (leafB P 8 e) = true) (h : DataW.Trod enc P w base sp held t (.slice a len cap) d p) : ∃ X, IsArms w a len cap X := by
  obtain ⟨fuel, hf⟩ := h
  simp only [Value.cells] at hf
  rcases open_slice ht hf with ⟨hcs, _⟩ | ⟨a', len', cap', m, n, D, Pl, hcs, hb, hle, hm, hmm, _, hx⟩
  · simp at hcs
    obtain ⟨rfl, rfl, rfl⟩ := hcs
    exact ⟨[], ⟨rfl, fun h => absurd h (by omega)⟩, by omega⟩
  · simp at hcs
    obtain ⟨rfl, rfl, rfl⟩ := hcs
    obtain ⟨b, o, spot⟩ := a'
    have hlm : len ≤ m := by rw [hmm]; split <;> omega
    have each : ∀ i, i < len → ∃ A : Arm, ∀ j z, A.ints[j]? = some z → w.cell? ((⟨b, o, spot⟩ : Addr).add (i * 15) |>.add j) = some (.int .i64 z) := by
      intro i hi
      obtain ⟨cs', h1, h2⟩ := hx i (by omega)
      rw [hC] at h1
      obtain ⟨_, hlen, hcell⟩ := World.cells?_some h1
      obtain ⟨zs, hz, hzs, _⟩ := flat_ints (cs := cs'.toArray) (n := 15) 8 (by simpa using hlen) hl (by simpa using h2)
      obtain ⟨A, hA⟩ := arm_of hz
      refine ⟨A, fun j z hj => ?_⟩
      rw [hA] at hj
      have hj15 : j < 15 := by rw [← hz]; exact (List.getElem?_eq_some_iff.1 hj).1
      rw [hcell j hj15]
      have e : cs' = zs.map (Value.int .i64) := by have := congrArg Array.toList hzs; simpa using this
      rw [e, List.getElem?_map, hj]; rfl
    obtain ⟨F, hF⟩ := choose_lt (α := Arm) (p := fun i A => ∀ j z, A.ints[j]? = some z → w.cell? ((⟨b, o, spot⟩ : Addr).add (i * 15) |>.add j) = some (.int .i64 z)) each
    refine ⟨(List.range len).map F, ⟨by simp, fun hn => ?_⟩, by omega⟩
    have h0 := hF 0 hn 0 (F 0).d rfl
    have hspot : spot = none := by simpa [Addr.add] using World.cell?_spot h0
    subst hspot
    have e : ∀ i j, ((⟨b, o, none⟩ : Addr).add (i * 15) |>.add j) = ⟨b, o + i * 15 + j, none⟩ := fun i j => by rw [addr_add, addr_add]
    refine ⟨b, o, rfl, ?_, fun k A hk j z hj => ?_⟩
    · rw [e] at h0
      exact cellI_lt h0
    · rw [List.getElem?_map] at hk
      have hkl : k < len := by
        rcases Nat.lt_or_ge k len with h | h
        · exact h
        · rw [List.getElem?_eq_none (by simpa using h)] at hk; cases hk
      rw [List.getElem?_eq_getElem (by simpa using hkl)] at hk
      simp at hk
      subst hk
      have := hF k hkl j z hj
      rw [e] at this
      exact this
end Go.Proofs.YtgoelkgdjnhklaaDoor
