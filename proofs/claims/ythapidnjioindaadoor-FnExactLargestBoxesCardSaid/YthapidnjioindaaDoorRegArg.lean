/- An argument that is a struct of one slice. -/
import Derived.Test.YthapidnjioindaaDoorProg
import Derived.ChangeArms
import Derived.WideShapes
import Derived.WalkKit
import Derived.ChangeSlices
namespace Go.Proofs.YthapidnjioindaaDoor

theorem reg_open {H : Type} {enc : TypeId × Value → H} {P : Program} {w : World} {base b0 : Nat} {r : Reach} {sp : Nat → Bool} {held : Bool} {t s e : TypeId} {f : Field} {v : Value} {d : DataW H} {p : List MemPlace}
    (hs : P.underlying t = some (.struct #[f])) (hf : f.type = s) (ho : f.offset = 0) (hC : P.cellsOf t = 1) (hS : P.cellsOf s = 1) (ht : P.underlying s = some (.slice e)) (he : P.underlying e = some (.int .i64)) (hc1 : P.cellsOf e = 1)
    (hv : Value.okWide P w r b0 t v) (h : DataW.Trod enc P w base sp held t v d p) :
    ∃ (a : Option Addr) (l c : Nat), v = .agg #[.slice a l c] ∧ ∃ fuel x, DataW.trod enc P w base sp held fuel s (Value.slice a l c).cells.toList = some x := by
  obtain ⟨cs, rfl, hsz⟩ := Go.WideShapes.okWide_struct hs hv
  obtain ⟨fuel, hd⟩ := h
  simp only [Value.cells] at hd
  obtain ⟨xs, n, _, _, _, hl, hg⟩ := DataW.trod_struct hs hd
  have h4 := hg 0 f rfl
  rw [List.getElem?_eq_getElem (show 0 < xs.length by rw [hl]; exact Nat.one_pos)] at h4
  obtain ⟨x0, hx0⟩ : ∃ x, cs = #[x] := by
    rw [hC] at hsz
    match cs, hsz with
    | ⟨[x]⟩, _ => exact ⟨x, rfl⟩
  subst hx0
  rw [hf, ho, hS] at h4
  have e4 : ((#[x0] : Array Value).toList.drop 0).take 1 = [x0] := rfl
  rw [e4] at h4
  rcases Go.ChangeShapes.open_ints ht he hc1 h4 with ⟨hcs, _⟩ | ⟨x, l, c, zs, hcs, _⟩
  · simp at hcs
    subst hcs
    exact ⟨none, 0, 0, rfl, _, _, h4⟩
  · simp at hcs
    subst hcs
    exact ⟨some x, l, c, rfl, _, _, h4⟩
end Go.Proofs.YthapidnjioindaaDoor
