/- Arms are loaded and stored in one step, in a plain region: the walk tries these rules at each operation and is told at once where they do not fit. -/
import Derived.Test.YtpcghkciibbmgaaDoorWithK
namespace Go.Proofs.YtpcghkciibbmgaaDoor
open Go.RowKit

theorem isList {P : Program} {ops : Array Oper} {l : List Oper} {a : Act} {W : World} {Q : Exit → Act → World → Prop} (h : wpList P ops Q l a W) : wpList P ops Q l a W := h
theorem ld15 (s D : Nat) (L : List Value) {ops : Array Oper} {rest : List Oper} {op : Oper} {a : Act} {W : World} {Q : Exit → Act → World → Prop} (hgd : op.guard = none) (ho : op.op = .load 29 (.tmp s)) (hx : a.eval (.tmp s) = .pointer (some ⟨D, 0, none⟩)) (hl : L.length = 15) (hc : W.rangeAt D 0 L)
    (h : wpList Tryd.prog ops Q rest (a.put op.dst (.agg L.toArray)) W) : wpList Tryd.prog ops Q (op :: rest) a W :=
  wpList_load_mid hgd 29 _ ho D 0 hx L _ hc Tryd.underlying29 rfl (by rw [hl]; exact size29) h
theorem st15 (s s2 R : Nat) (L : List Value) {ops : Array Oper} {rest : List Oper} {op : Oper} {a : Act} {W : World} {Q : Exit → Act → World → Prop} (hgd : op.guard = none) (ho : op.op = .store 29 (.tmp s) (.tmp s2)) (hx : a.eval (.tmp s) = .pointer (some ⟨R, 0, none⟩)) (hy : a.eval (.tmp s2) = .agg L.toArray) (hl : L.length = 15) (ht : W.there R 0 15) (h1 : ∀ v ∈ L, v.oneCell' = true)
    (h : wpList Tryd.prog ops Q rest (a.put op.dst undef) (W.setCells R 0 L)) : wpList Tryd.prog ops Q (op :: rest) a W :=
  wpList_store_mid hgd 29 _ _ ho R 0 L.toArray hx hy (by simpa [hl] using ht) (by rw [List.size_toArray, hl]; exact size29) (all_oneCell_toArray h1) (by simpa using h)
end Go.Proofs.YtpcghkciibbmgaaDoor
