/- Contract: the program's JoinStrings, at slices of at most 2^20 bytes in all and a separator of one byte. -/
import Derived.Test.YtacpacllpjddlaaJoinImpl
namespace Go.Proofs.Ytacpacllpjddlaa
open Go.RowKit

theorem own_cells {w : World} {B g n cap : Nat} {X : List ByteArray} (h : w.ownsRow B 9 1 (.slice (some ⟨g, 0, none⟩) n cap) n (X.map Value.string)) :
    (∀ k, k < n → w.cell? ⟨g, 0 + k, none⟩ = some (.string (X.getD k ByteArray.empty))) ∧ g < w.heap.size := by
  have hl : X.length = n := by have := h.1; simpa using this
  refine ⟨fun k hk => ?_, (h.lt g rfl).2⟩
  rw [Nat.zero_add, h.cellAt k (by omega)]
  simp [List.getD, hl, hk]
theorem join_call (X : List ByteArray) (n b o cp : Nat) (c : UInt8) (w : World) (hXl : X.length = n) (hc : ∀ k, k < n → w.cell? ⟨b, o + k, none⟩ = some (.string (X.getD k ByteArray.empty))) (hlt0 : b < w.heap.size) (hcp : n ≤ cp) (hn : n ≤ 1048576) (hl : (jn X c).length ≤ 4000) :
    Calls Try.prog 31 #[.slice (some ⟨b, o, none⟩) n cp, .string ⟨#[c]⟩] w fun e w' => e = .returned (.string (strOf (jn X c))) ∧ Below w.heap.size w w' := by
  subst hXl
  have h := Try.strings_Join b o cp X ⟨#[c]⟩ w (fun j x hx => rd_at hc (by have := (List.getElem?_eq_some_iff.1 hx).1; omega) hx) hlt0 (by omega) hcp (by
    show (jn X c).length ≤ _
    omega)
  exact h

set_option maxHeartbeats 2000000 in
theorem join_impl (X : List ByteArray) (n b o cp : Nat) (c : UInt8) (w : World) (hXl : X.length = n) (hn : 0 < n) (hc : ∀ k, k < n → w.cell? ⟨b, o + k, none⟩ = some (.string (X.getD k ByteArray.empty))) (hlt0 : b < w.heap.size) (hcp : n ≤ cp) (hbl : n + blen X ≤ 1048576) :
    Calls Try.prog 12 #[.slice (some ⟨b, o, none⟩) n cp, .string ⟨#[c]⟩] w fun e w' => JP X c e ∧ Below w.heap.size w w' := by
  have e0 : ((n : Int) == 0) = false := by simp; omega
  have hz1 : ({ data := #[c] } : ByteArray).size = 1 := rfl
  have hX0 : X ≠ [] := by rintro rfl; simp at hXl; omega
  have HJ := Lib.hid (fun hl => join_call X n b o cp c w hXl hc hlt0 hcp (by omega) hl)
  have HL := Lib.hid (jn_length hX0 c)
  have HC := Lib.hid hc
  have HXl := Lib.hid hXl
  have HX0 := Lib.hid hX0
  clear hc hXl hX0
  go_enter Try.func12, Try.ntmps12
  go_wp2_with fail
  go_loopg [6, 8, 22] n (fun g sz p i wr => ∃ k z : Nat, k + g = n ∧ i = .int .i64 k ∧ sz = .int .i64 z ∧ Hid (z = n - 1 + blen (X.take k)) ∧ z ≤ 1048576 ∧ Hid (NoneTo X c k) ∧ Hid (1 ≤ k → z ≤ 4000) ∧ w = wr)
  case atStart => exact ⟨0, n - 1, by omega, rfl, by go_num, by show _ = _; rw [List.take_zero, blen_nil]; omega, by omega, by show NoneTo X c 0; intro x hx; simp at hx, by show _ → _; omega, rfl⟩
  case round =>
    obtain ⟨k, z, hk, rfl, rfl, HZ, hz, HN, H4, rfl⟩ := hrel
    by_cases hlt : k < n
    · obtain ⟨g, rfl⟩ : ∃ g, gk = g + 1 := ⟨gk - 1, by omega⟩
      obtain ⟨x, hx, hmem⟩ := at_of_lt HXl.out hlt
      have hcell := rd_at HC.out hlt hx
      have hbt := blen_take_succ hx
      have hbt2 := blen_take_le X (k + 1)
      have hxs : z + x.size ≤ 1048576 := by have := HZ.out; omega
      have cct := contains_c x c w
      have HX := Lib.hid hx
      have HM := Lib.hid hmem
      have HBT := Lib.hid hbt
      have HBT2 := Lib.hid hbt2
      clear hx hmem hbt hbt2
      by_cases hbig : (4000 : Int) < (z : Int) + (x.size : Int)
      · have HB : Hid (¬ JGood X c) := fun hg => by
          have h1 := hg.2.2
          have h2 := HL.out
          have h3 := HXl.out
          have h4 := HBT.out
          have h5 := HBT2.out
          have h6 := HZ.out
          omega
        have eb : decide ((4000 : Int) < (z : Int) + (x.size : Int)) = true := by simp; omega
        go_wp2_with fail
        go_ret2
        exact ⟨.inr ⟨HB.out, rfl⟩, Below.refl _ _⟩
      · have eb : decide ((4000 : Int) < (z : Int) + (x.size : Int)) = false := by simp; omega
        by_cases hh : has x.data.toList c = true
        · have HB : Hid (¬ JGood X c) := fun hg => by have := hg.2.1 x HM.out; rw [hh] at this; cases this
          simp only [hh] at cct
          go_wp2_with (go_at_call 30; refine cct.mono ?_; rintro e w' ⟨rfl, rfl⟩)
          go_ret2
          exact ⟨.inr ⟨HB.out, rfl⟩, Below.refl _ _⟩
        · have hh' : has x.data.toList c = false := by simpa using hh
          have HN1 := Lib.hid (noneTo_succ HN.out HX.out hh')
          simp only [hh'] at cct
          clear hh hh'
          go_wp2_with (go_at_call 30; refine cct.mono ?_; rintro e w' ⟨rfl, rfl⟩)
          go_roundg g
          case measure => omega
          case rel => exact ⟨k + 1, z + x.size, by omega, by go_num, by go_num, by show _ = _; have h1 := HZ.out; have h2 := HBT.out; omega, by omega, HN1, by show _ → _; omega, rfl⟩
    · obtain rfl : k = n := by omega
      have ht : X.take k = X := List.take_of_length_le (by have := HXl.out; omega)
      have hl : (jn X c).length ≤ 4000 := by
        have h1 := HL.out
        have h2 := HZ.out
        have h3 := H4.out hn
        have h4 := HXl.out
        rw [ht] at h2
        omega
      have HG : Hid (JGood X c) := ⟨HX0.out, by have h := HN.out; unfold NoneTo at h; rw [ht] at h; exact h, hl⟩
      have cj := HJ.out hl
      clear ht hl
      go_wp2_with (go_at_call 31; refine cj.mono ?_; rintro e w' ⟨rfl, hb⟩)
      go_ret2
      exact ⟨.inl ⟨HG.out, rfl⟩, hb⟩
end Go.Proofs.Ytacpacllpjddlaa
