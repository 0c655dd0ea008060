/- Contract: the places of all tinctures of a draft: a slice of pointers. -/
import Derived.Test.YtpcghkciibbmgaaDoorPlaces
import Derived.Test.YtpcghkciibbmgaaDoorG4Tabs
namespace Go.Proofs.YtpcghkciibbmgaaDoor
open Go.RowKit

theorem ptrs_len (b : Nat) (L : List Nat) : (ptrs b L).length = L.length := by simp [ptrs]
theorem ptrs_one {b : Nat} {L : List Nat} : ∀ u ∈ ptrs b L, u.oneCell' = true := by
  intro u hu
  unfold ptrs at hu
  obtain ⟨i, _, rfl⟩ := List.mem_map.1 hu
  rfl
theorem row_news {w : World} {B g n cp : Nat} {e : TypeId} {xs : List Value} (h : w.ownsRow B e 1 (.slice (some ⟨g, 0, none⟩) n cp) n xs) : ∀ j u, xs[j]? = some u → w.cell? (Addr.add ⟨g, 0, none⟩ j) = some u := fun j u hj => by
  have hl : xs.length = n := by have := h.1; omega
  have hjl : j < xs.length := (List.getElem?_eq_some_iff.1 hj).1
  rw [addr_add, Nat.zero_add]
  exact (h.cellAt j (by omega)).trans hj
set_option maxRecDepth 100000 in
set_option maxHeartbeats 4000000 in
theorem places_t (d l f s o n x c k a t c' k' a' t' : Int) (b : Nat) (w : World) (h : BoxF w b [.int .i64 d, .int .i64 l, .int .i64 f, .int .i64 s, .int .i64 o, .int .i64 n, .int .i64 x, .int .i64 c, .int .i64 k, .int .i64 a, .int .i64 t, .int .i64 c', .int .i64 k', .int .i64 a', .int .i64 t'] 60) (e0 : (d != 0) = false) (L : List Nat) (hL : L.length ≤ 3) (CF : ∀ W, BoxF W b [.int .i64 d, .int .i64 l, .int .i64 f, .int .i64 s, .int .i64 o, .int .i64 n, .int .i64 x, .int .i64 c, .int .i64 k, .int .i64 a, .int .i64 t, .int .i64 c', .int .i64 k', .int .i64 a', .int .i64 t'] 60 → Calls Tryd.prog 38 #[.pointer (some ⟨b, 0, none⟩)] W (Places W b L)) :
    Calls Tryd.prog 28 #[.pointer (some ⟨b, 0, none⟩)] w (Places w b ([2] ++ L)) := by
  obtain ⟨i0, hi, hz0, hz1, hz2⟩ := info_parts infoP5
  have hlt := h.lt
  have HC := Lib.hid CF
  have BX1 := Lib.hid (h.alloc (.cells #[.pointer (some ⟨b, 2, none⟩)] 63 (0, 0)))
  have BB1 := Lib.hid ((Below.refl _ w).alloc (Nat.le_refl _) (.cells #[.pointer (some ⟨b, 2, none⟩)] 63 (0, 0)))
  have HO1 : Hid ((w.alloc (.cells #[.pointer (some ⟨b, 2, none⟩)] 63 (0, 0))).ownsRow w.heap.size 63 1 (.slice (some ⟨w.heap.size, 0, none⟩) 1 1) 1 [.pointer (some ⟨b, 2, none⟩)]) := Lib.hid ⟨rfl, .inr ⟨w.heap.size, 1, #[.pointer (some ⟨b, 2, none⟩)], rfl, Nat.le_refl _, heap_alloc_new w _, Nat.le_refl _, by unfold maxLen; omega, rfl, rfl⟩⟩
  have y0 := BX1.out.at 0
  clear h CF
  go_enter Tryd.func28, Tryd.ntmps28
  go_wp2_with fail
  clear y0
  refine (HC.out _ BX1.out).mono ?_
  rintro e w3 ⟨ao, cap, rfl, ho, hnil, hb⟩
  have hgb := grownI_of_below hb none
  have HO3 := Lib.hid (World.ownsRow.kept HO1.out hgb (.inr (by simp [Value.ownBlock])))
  have BB3 := Lib.hid (BB1.out.trans (hb.mono BB1.out.size))
  clear hgb hb HO1 BX1
  by_cases hl : L = []
  · subst hl
    obtain ⟨rfl, rfl⟩ := hnil rfl
    clear ho hnil
    go_wp2_with (at_builtin; refine wpList_append_own_none rfl _ _ 61 rfl w.heap.size 63 i0 1 Tryd.underlying61 hi _ _ _ rfl HO3.out rfl ?_)
    go_ret
    exact placesAre (by simp [ptrs]) rfl (by decide) HO3.out BB3.out
  · have hpos : 0 < L.length := by rcases L with _ | _ <;> simp at hl ⊢
    obtain ⟨g3, cp3, hv3, hge3, hlt3⟩ := World.ownsRow.form ho hpos
    cases hv3
    have HN := Lib.hid (row_news ho)
    clear ho hnil hl
    go_wp2_with (at_builtin; refine wpList_append_own _ rfl _ _ 61 rfl w.heap.size 63 i0 (.pointer none) 1 8 Tryd.underlying61 hi hz0 hz1 hz2 rfl (by decide) _ _ _ rfl HO3.out ⟨g3, 0, none⟩ L.length cap (ptrs b L) rfl (by rw [ptrs_len, Nat.mul_one]) HN.out ptrs_one (by unfold maxLen; omega) (by omega) BB3.out.size ?_; intro v4 u4 hown_ hgr_ _; have hgr4 : w3.grownBy u4 (some w.heap.size) := hgr_; have HO4 := Lib.hid hown_; clear hown_ hgr_)
    go_ret
    exact placesAre (by simp [ptrs]) (by simp; omega) (by omega) HO4.out (BB3.out.grown hgr4 BB3.out.size (fun q hq => by cases hq; omega))
set_option maxRecDepth 100000 in
set_option maxHeartbeats 4000000 in
theorem places_f (d l f s o n x c k a t c' k' a' t' : Int) (b : Nat) (w : World) (h : BoxF w b [.int .i64 d, .int .i64 l, .int .i64 f, .int .i64 s, .int .i64 o, .int .i64 n, .int .i64 x, .int .i64 c, .int .i64 k, .int .i64 a, .int .i64 t, .int .i64 c', .int .i64 k', .int .i64 a', .int .i64 t'] 60) (e0 : (d != 0) = true) (L : List Nat) (hL : L.length ≤ 3) (CF : ∀ W, BoxF W b [.int .i64 d, .int .i64 l, .int .i64 f, .int .i64 s, .int .i64 o, .int .i64 n, .int .i64 x, .int .i64 c, .int .i64 k, .int .i64 a, .int .i64 t, .int .i64 c', .int .i64 k', .int .i64 a', .int .i64 t'] 60 → Calls Tryd.prog 38 #[.pointer (some ⟨b, 0, none⟩)] W (Places W b L)) :
    Calls Tryd.prog 28 #[.pointer (some ⟨b, 0, none⟩)] w (Places w b ([2, 3] ++ L)) := by
  obtain ⟨i0, hi, hz0, hz1, hz2⟩ := info_parts infoP5
  have hlt := h.lt
  have HC := Lib.hid CF
  have BX1 := Lib.hid (h.alloc (.cells #[.pointer (some ⟨b, 2, none⟩)] 63 (0, 0)))
  have BB1 := Lib.hid ((Below.refl _ w).alloc (Nat.le_refl _) (.cells #[.pointer (some ⟨b, 2, none⟩)] 63 (0, 0)))
  have HO1 : Hid ((w.alloc (.cells #[.pointer (some ⟨b, 2, none⟩)] 63 (0, 0))).ownsRow w.heap.size 63 1 (.slice (some ⟨w.heap.size, 0, none⟩) 1 1) 1 [.pointer (some ⟨b, 2, none⟩)]) := Lib.hid ⟨rfl, .inr ⟨w.heap.size, 1, #[.pointer (some ⟨b, 2, none⟩)], rfl, Nat.le_refl _, heap_alloc_new w _, Nat.le_refl _, by unfold maxLen; omega, rfl, rfl⟩⟩
  have y0 := BX1.out.at 0
  clear h CF
  go_enter Tryd.func28, Tryd.ntmps28
  go_wp2_with (at_builtin; refine wpList_append_own _ rfl _ _ 61 rfl w.heap.size 63 i0 (.pointer none) 1 8 Tryd.underlying61 hi hz0 hz1 hz2 rfl (by decide) _ _ _ rfl (HO1.out.alloc _) ⟨w.heap.size + 1, 0, none⟩ 1 1 [.pointer (some ⟨b, 3, none⟩)] rfl rfl (by have q := cell_one_new (w.alloc (.cells #[.pointer (some ⟨b, 2, none⟩)] 63 (0, 0))) (.pointer (some ⟨b, 3, none⟩)) 63; rw [World.size_alloc] at q; exact q) (fun u hu => by simp at hu; subst hu; rfl) (by unfold maxLen; omega) (by omega) (by simp; omega) ?_; intro v2 u2 hown_ hgr_ _; have hgr2 : ((w.alloc (.cells #[.pointer (some ⟨b, 2, none⟩)] 63 (0, 0))).alloc (.cells #[.pointer (some ⟨b, 3, none⟩)] 63 (0, 0))).grownBy u2 (some w.heap.size) := hgr_; have hown2 : u2.ownsRow w.heap.size 63 1 v2 2 [.pointer (some ⟨b, 2, none⟩), .pointer (some ⟨b, 3, none⟩)] := hown_; clear hown_ hgr_; obtain ⟨g2, cp2, rfl, hge2, hlt2⟩ := World.ownsRow.form hown2 (by omega))
  clear y0
  have BX2 := Lib.hid ((BX1.out.alloc _).kept hgr2 (by first | (simp; done) | (simp; omega)))
  have BB2 := Lib.hid ((BB1.out.alloc BB1.out.size _).grown hgr2 (by have := BB1.out.size; simp; omega) (fun q hq => by first | (cases hq; omega) | (cases hq; done)))
  have HO2 := Lib.hid hown2
  clear hgr2 hown2 BX1 BB1 HO1
  refine (HC.out _ BX2.out).mono ?_
  rintro e w3 ⟨ao, cap, rfl, ho, hnil, hb⟩
  have hgb := grownI_of_below hb none
  have HO3 := Lib.hid (World.ownsRow.kept HO2.out hgb (.inr (by simp [Value.ownBlock])))
  have BB3 := Lib.hid (BB2.out.trans (hb.mono BB2.out.size))
  clear hgb hb HO2 BX2
  by_cases hl : L = []
  · subst hl
    obtain ⟨rfl, rfl⟩ := hnil rfl
    clear ho hnil
    go_wp2_with (at_builtin; refine wpList_append_own_none rfl _ _ 61 rfl w.heap.size 63 i0 1 Tryd.underlying61 hi _ _ _ rfl HO3.out rfl ?_)
    go_ret
    exact placesAre (by simp [ptrs]) rfl (by decide) HO3.out BB3.out
  · have hpos : 0 < L.length := by rcases L with _ | _ <;> simp at hl ⊢
    obtain ⟨g3, cp3, hv3, hge3, hlt3⟩ := World.ownsRow.form ho hpos
    cases hv3
    have HN := Lib.hid (row_news ho)
    clear ho hnil hl
    go_wp2_with (at_builtin; refine wpList_append_own _ rfl _ _ 61 rfl w.heap.size 63 i0 (.pointer none) 1 8 Tryd.underlying61 hi hz0 hz1 hz2 rfl (by decide) _ _ _ rfl HO3.out ⟨g3, 0, none⟩ L.length cap (ptrs b L) rfl (by rw [ptrs_len, Nat.mul_one]) HN.out ptrs_one (by unfold maxLen; omega) (by omega) BB3.out.size ?_; intro v4 u4 hown_ hgr_ _; have hgr4 : w3.grownBy u4 (some g2) := hgr_; have HO4 := Lib.hid hown_; clear hown_ hgr_)
    go_ret
    exact placesAre (by simp [ptrs]) (by simp; omega) (by omega) HO4.out (BB3.out.grown hgr4 BB3.out.size (fun q hq => by cases hq; omega))
/-- The cells of all tinctures. -/
def placesL (d o : Int) (z1 z2 : Bool) : List Nat := (if d = 0 then [2] else [2, 3]) ++ furtherL (o == 0) z1 z2
theorem furtherL_len (z z1 z2 : Bool) : (furtherL z z1 z2).length ≤ 3 := by cases z <;> cases z1 <;> cases z2 <;> decide
theorem places_any (d l f s o n x c k a t c' k' a' t' : Int) (b : Nat) (w : World) (h : BoxF w b [.int .i64 d, .int .i64 l, .int .i64 f, .int .i64 s, .int .i64 o, .int .i64 n, .int .i64 x, .int .i64 c, .int .i64 k, .int .i64 a, .int .i64 t, .int .i64 c', .int .i64 k', .int .i64 a', .int .i64 t'] 60) : Calls Tryd.prog 28 #[.pointer (some ⟨b, 0, none⟩)] w (Places w b (placesL d o (gNoB c k a t) (gNoB c' k' a' t'))) := by
  unfold placesL
  by_cases h0 : d = 0
  · rw [if_pos h0]
    exact places_t _ _ _ _ _ _ _ _ _ _ _ _ _ _ _ b w h (by simp [h0]) _ (furtherL_len _ _ _) (fun W hW => further_any _ _ _ _ _ _ _ _ _ _ _ _ _ _ _ b W hW)
  · rw [if_neg h0]
    exact places_f _ _ _ _ _ _ _ _ _ _ _ _ _ _ _ b w h (by simpa using h0) _ (furtherL_len _ _ _) (fun W hW => further_any _ _ _ _ _ _ _ _ _ _ _ _ _ _ _ b W hW)
end Go.Proofs.YtpcghkciibbmgaaDoor
