/- Plain facts: parsing a field's text word by word gives back the field. -/
import Derived.Test.YtmogabnngphfgaaDoorCutW
import Derived.Test.YtmogabnngphfgaaDoorFPMath
import Derived.Lib.IndexMore
namespace Go.Proofs.YtmogabnngphfgaaDoor

def divTL : List (List UInt8) := bytesOfL divT
def lineTL : List (List UInt8) := bytesOfL lineT
/-- The number of a tincture's word, or 0. -/
def tinP (s : List UInt8) : Nat := match wordL.findIdx? (fun t => t.data.toList == s) with
  | some i => i + 1
  | none => 0
/-- What the program reads out of a text before it compares. -/
def readP (s : List UInt8) : Nat × Nat × Nat × Nat :=
  let a := cutFrom s divTL 0
  let b := cutFrom a.2 lineTL 0
  let c := Lib.cut b.2 [32, 97, 110, 100, 32]
  (a.1, b.1, tinP c.1, tinP c.2.1)
set_option maxRecDepth 100000 in
theorem readP_all : ((List.range 8).all fun d => (List.range 5).all fun l => (List.range 9).all fun i => (List.range 9).all fun j => (d == 0 && (l != 0 || j != 0)) || (d != 0 && i == j) || readP (textN d l i j).data.toList == (d, l, i + 1, if d == 0 then 0 else j + 1)) = true := by decide +kernel
theorem readP_plain {i : Nat} (hi : i < 9) : readP (textN 0 0 i 0).data.toList = (0, 0, i + 1, 0) := by
  have H := List.all_eq_true.1 (List.all_eq_true.1 (List.all_eq_true.1 (List.all_eq_true.1 readP_all 0 (List.mem_range.2 (by omega))) 0 (List.mem_range.2 (by omega))) i (List.mem_range.2 hi)) 0 (List.mem_range.2 (by omega))
  simpa using H
theorem readP_div {d l i j : Nat} (h0 : 1 ≤ d) (hd : d < 8) (hl : l < 5) (hi : i < 9) (hj : j < 9) (hij : i ≠ j) : readP (textN d l i j).data.toList = (d, l, i + 1, j + 1) := by
  have H := List.all_eq_true.1 (List.all_eq_true.1 (List.all_eq_true.1 (List.all_eq_true.1 readP_all d (List.mem_range.2 hd)) l (List.mem_range.2 hl)) i (List.mem_range.2 hi)) j (List.mem_range.2 hj)
  have e0 : (d == 0) = false := by rw [beq_eq_false_iff_ne]; omega
  have e1 : (i == j) = false := by rw [beq_eq_false_iff_ne]; exact hij
  rw [e0, e1] at H
  simpa using H
/-- The text of a valid field is read as the field. -/
theorem readP_valid {d l f s : Int} (h : FOk d l f s) : readP (textN d.toNat l.toNat (f - 1).toNat (s - 1).toNat).data.toList = (d.toNat, l.toNat, f.toNat, s.toNat) := by
  obtain ⟨hd, hl, hf, hs⟩ := h
  rcases hs with ⟨rfl, rfl, rfl⟩ | ⟨h0, hs, hne⟩
  · have := readP_plain (i := (f - 1).toNat) (by omega)
    rw [show (f - 1).toNat + 1 = f.toNat by omega] at this
    exact this
  · have := readP_div (d := d.toNat) (l := l.toNat) (i := (f - 1).toNat) (j := (s - 1).toNat) (by omega) (by omega) (by omega) (by omega) (by omega) (by omega)
    rw [show (f - 1).toNat + 1 = f.toNat by omega, show (s - 1).toNat + 1 = s.toNat by omega] at this
    exact this
end Go.Proofs.YtmogabnngphfgaaDoor
