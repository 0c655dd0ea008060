/- What the calls of the law FnFields answer at a drawn field, and at a drawn text. -/
import Derived.Test.YtmogabnngphfgaaDoorPField
import Derived.Test.YtmogabnngphfgaaDoorRSort
import Derived.Test.YtmogabnngphfgaaDoorRRep
namespace Go.Proofs.YtmogabnngphfgaaDoor
open Go.RowKit

theorem read_answers (t : ByteArray) (ht : t.size ≤ 1048576) : ∃ (g1 g2 g3 g4 : Int) (read : Bool) (u : ByteArray) (told : Bool),
    (∀ W, TabsLie W → MaxLenAt W → Calls Tryd.prog 9 #[.string t] W fun e w' => e = .returned (.tuple #[.agg #[.int .i64 g1, .int .i64 g2, .int .i64 g3, .int .i64 g4], .bool read]) ∧ Below W.heap.size W w') ∧
    (∀ W, TabsLie W → Calls Tryd.prog 8 #[.agg #[.int .i64 g1, .int .i64 g2, .int .i64 g3, .int .i64 g4]] W fun e w' => e = .returned (.tuple #[.string u, .bool told]) ∧ Below W.heap.size W w') ∧
    (read = false ∨ (read = true ∧ told = true ∧ t = u)) := by
  obtain ⟨d, l, f, x, ok, hP, c⟩ := parseField_impl t ht
  rcases hP with ⟨rfl, hf, hx⟩ | ⟨rfl, ⟨rfl, rfl, rfl, rfl⟩, _⟩
  · exact ⟨d, l, f, x, true, _, true, fun W h1 h2 => c W h1 h2, fun W h => fieldText_yes d l f x W hf h, .inr ⟨rfl, rfl, hx.symm⟩⟩
  · exact ⟨0, 0, 0, 0, false, _, false, fun W h1 h2 => c W h1 h2, fun W _ => fieldText_no 0 0 0 0 W (by unfold FOk; omega), .inl rfl⟩
theorem same_swapped {f s : Int} : samePB [f, s] [s, f] = true := by simp [samePB]
theorem partL_first (d f s : Int) : 1 ≤ (partL d f s).length ∧ (partL d f s).getD 0 0 = f := by
  unfold partL
  split
  · simp
  · split
    · simp
    · split <;> simp
theorem fok_swap {d l f s : Int} (h : FOk d l f s) (h0 : d ≠ 0) : FOk d l s f := by
  obtain ⟨hd, hl, hf, hs⟩ := h
  rcases hs with ⟨e, _⟩ | ⟨_, hs, hne⟩
  · exact absurd e h0
  · exact ⟨hd, hl, hs, .inr ⟨h0, hf, fun e => hne e.symm⟩⟩
theorem fields_answers (d l f s : Int) : ∃ (t0 : ByteArray) (ok : Bool) (d1 l1 f1 s1 : Int) (fine : Bool) (d2 l2 f2 s2 d3 l3 f3 s3 : Int) (same : Bool) (L : List Int) (N : Nat),
    (∀ W, TabsLie W → Calls Tryd.prog 8 #[.agg #[.int .i64 d, .int .i64 l, .int .i64 f, .int .i64 s]] W fun e w' => e = .returned (.tuple #[.string t0, .bool ok]) ∧ Below W.heap.size W w') ∧
    (∀ W, TabsLie W → MaxLenAt W → Calls Tryd.prog 9 #[.string t0] W fun e w' => e = .returned (.tuple #[.agg #[.int .i64 d1, .int .i64 l1, .int .i64 f1, .int .i64 s1], .bool fine]) ∧ Below W.heap.size W w') ∧
    (∀ W, Calls Tryd.prog 10 #[.agg #[.int .i64 d, .int .i64 l, .int .i64 f, .int .i64 s]] W fun e w' => e = .returned (.bool ok) ∧ Below W.heap.size W w') ∧
    (∀ W, Calls Tryd.prog 11 #[.agg #[.int .i64 d, .int .i64 l, .int .i64 f, .int .i64 s]] W fun e w' => e = .returned (.bool ok) ∧ Below W.heap.size W w') ∧
    (∀ W, Calls Tryd.prog 13 #[.agg #[.int .i64 d, .int .i64 l, .int .i64 f, .int .i64 s]] W fun e w' => e = .returned (.tuple #[.agg #[.int .i64 d2, .int .i64 l2, .int .i64 f2, .int .i64 s2], .bool ok]) ∧ Below W.heap.size W w') ∧
    (∀ W, Calls Tryd.prog 13 #[.agg #[.int .i64 d2, .int .i64 l2, .int .i64 f2, .int .i64 s2]] W fun e w' => e = .returned (.tuple #[.agg #[.int .i64 d3, .int .i64 l3, .int .i64 f3, .int .i64 s3], .bool ok]) ∧ Below W.heap.size W w') ∧
    (∀ W, Calls Tryd.prog 14 #[.agg #[.int .i64 d, .int .i64 l, .int .i64 f, .int .i64 s], .agg #[.int .i64 d2, .int .i64 l2, .int .i64 f2, .int .i64 s2]] W fun e w' => e = .returned (.tuple #[.bool same, .bool ok]) ∧ Below W.heap.size W w') ∧
    (∀ W, Calls Tryd.prog 15 #[.agg #[.int .i64 d, .int .i64 l, .int .i64 f, .int .i64 s]] W fun e w' => ∃ a cap, e = .returned (.tuple #[.slice a N cap, .bool ok]) ∧ OwnI w' W.heap.size a N cap L ∧ Below W.heap.size W w') ∧
    (ok = false ∨ (ok = true ∧ fine = true ∧ d = d1 ∧ l = l1 ∧ f = f1 ∧ s = s1 ∧ d = d3 ∧ l = l3 ∧ f = f3 ∧ s = s3 ∧ same = true ∧ 1 ≤ N ∧ L.getD 0 0 = f)) := by
  by_cases h : FOk d l f s
  · have hz : (textN d.toNat l.toNat (f - 1).toNat (s - 1).toNat).size ≤ 1048576 := by
      have h1 := h
      obtain ⟨⟨_, _⟩, ⟨_, _⟩, ⟨_, _⟩, hs⟩ := h1
      by_cases h0 : d = 0
      · subst h0
        unfold textN
        rw [if_pos (show (0 : Int).toNat = 0 from rfl)]
        have := wordN_size (i := (f - 1).toNat) (by omega)
        omega
      · have := textN_size (d := d.toNat) (l := l.toNat) (i := (f - 1).toNat) (j := (s - 1).toNat) (by omega) (by omega) (by omega) (by omega) (by rcases hs with ⟨e, _⟩ | ⟨_, hs, _⟩ <;> omega)
        omega
    obtain ⟨d1, l1, f1, s1, fine, hP, c⟩ := parseField_impl _ hz
    rcases hP with ⟨rfl, hf', ht'⟩ | ⟨_, _, hno⟩
    · have r1 := readP_valid h
      have r2 := readP_valid hf'
      rw [ht', r1] at r2
      simp only [Prod.mk.injEq] at r2
      have e : d = d1 ∧ l = l1 ∧ f = f1 ∧ s = s1 := by
        obtain ⟨⟨_, _⟩, ⟨_, _⟩, ⟨_, _⟩, hx⟩ := h
        obtain ⟨⟨_, _⟩, ⟨_, _⟩, ⟨_, _⟩, hx'⟩ := hf'
        have h0 : 0 ≤ s := by rcases hx with ⟨_, _, h⟩ | ⟨_, h, _⟩ <;> omega
        have h0' : 0 ≤ s1 := by rcases hx' with ⟨_, _, h⟩ | ⟨_, h, _⟩ <;> omega
        omega
      have hp := partL_first d f s
      by_cases h0 : d = 0
      · refine ⟨_, true, d1, l1, f1, s1, true, d, l, f, s, d, l, f, s, true, partL d f s, (partL d f s).length, fun W hW => fieldText_yes d l f s W h hW, fun W h1 h2 => c W h1 h2, fun W => validField_spec d l f s W true (decide_eq_true h), fun W => validField_impl d l f s W true (decide_eq_true h), fun W => swap_impl0 d l f s W h h0, fun W => swap_impl0 d l f s W h h0, fun W => ?_, fun W => fieldParts_impl d l f s W h, .inr ⟨rfl, rfl, e.1, e.2.1, e.2.2.1, e.2.2.2, rfl, rfl, rfl, rfl, rfl, hp.1, hp.2⟩⟩
        have cs := same_impl d l f s d l f s W h h
        rw [show samePB (tincL d f s) (tincL d f s) = true by rw [tincL_0 h0]; simp [samePB]] at cs
        exact cs
      · refine ⟨_, true, d1, l1, f1, s1, true, d, l, s, f, d, l, f, s, true, partL d f s, (partL d f s).length, fun W hW => fieldText_yes d l f s W h hW, fun W h1 h2 => c W h1 h2, fun W => validField_spec d l f s W true (decide_eq_true h), fun W => validField_impl d l f s W true (decide_eq_true h), fun W => swap_impl1 d l f s W h h0, fun W => swap_impl1 d l s f W (fok_swap h h0) h0, fun W => ?_, fun W => fieldParts_impl d l f s W h, .inr ⟨rfl, rfl, e.1, e.2.1, e.2.2.1, e.2.2.2, rfl, rfl, rfl, rfl, rfl, hp.1, hp.2⟩⟩
        have cs := same_impl d l f s d l s f W h (fok_swap h h0)
        rw [show samePB (tincL d f s) (tincL d s f) = true by rw [tincL_1 h0, tincL_1 h0]; exact same_swapped] at cs
        exact cs
    · exact absurd rfl (hno d l f s h)
  · obtain ⟨d1, l1, f1, s1, fine, _, c⟩ := parseField_impl ⟨#[]⟩ (by decide)
    have hz : ¬ FOk 0 0 0 0 := by unfold FOk; omega
    exact ⟨_, false, d1, l1, f1, s1, fine, 0, 0, 0, 0, 0, 0, 0, 0, false, [], 0, fun W _ => fieldText_no d l f s W h, fun W h1 h2 => c W h1 h2, fun W => validField_spec d l f s W false (decide_eq_false h), fun W => validField_impl d l f s W false (decide_eq_false h), fun W => swap_impl_no d l f s W h, fun W => swap_impl_no 0 0 0 0 W hz, fun W => same_impl_no d l f s 0 0 0 0 W (fun e => h e.1), fun W => fieldParts_impl_no d l f s W h, .inl rfl⟩
end Go.Proofs.YtmogabnngphfgaaDoor
