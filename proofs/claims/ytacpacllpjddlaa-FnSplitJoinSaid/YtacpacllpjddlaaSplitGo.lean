/- Contract: the program's SplitString, at every two strings. -/
import Derived.Test.YtacpacllpjddlaaSplitImpl
namespace Go.Proofs.Ytacpacllpjddlaa
open Go.RowKit Go.Shelf
attribute [local go_sem] Oper.semAt_some

theorem iter_stops (F : Fence) (n : Nat) (hf : F.fn 36) (hro : F.round = none) (hn : 1 ≤ n) (B1 B2 : Nat) (s : ByteArray) (c : UInt8) (hs : s.size ≤ 1048576) (w : World) (hB1 : B1 < w.heap.size) (hB2 : B2 < w.heap.size)
    (h1 : w.cell? ⟨B1, 0, none⟩ = some (.string s)) (h2 : w.cell? ⟨B2, 0, none⟩ = some (.int .u8 (c.toNat : Int))) :
    SeqStopsK F n Try.prog 36 #[.pointer (some ⟨B1, 0, none⟩), .pointer (some ⟨B2, 0, none⟩)] (fun x : List UInt8 => #[encS x]) (KeepTwo B1 B2) (fun ys => ys = splitL c s.data.toList) (fun _ => True) (splitL c s.data.toList).length w :=
  fun l J Jx W hW hJ _ hY h0 => iter_in F n hf hro hn l B1 B2 s c hs J Jx (fun pre A B h hg => hJ pre A B none h hg (fun r e => by cases e)) hY W ((hW.cell (p := ⟨B1, 0, none⟩) hB1).trans h1) ((hW.cell (p := ⟨B2, 0, none⟩) hB2).trans h2) h0

theorem keepTwo_t {B1 B2 : Nat} {A B C : World} (h : KeepTwo B1 B2 A B) (k : KeepTwo B1 B2 B C) : KeepTwo B1 B2 A C := ⟨k.1.trans h.1, k.2.trans h.2⟩
theorem keepTwo_b {B1 B2 : Nat} {w : World} (h1 : B1 < w.heap.size) (h2 : B2 < w.heap.size) (W : World) (l : Nat) (o o' : Obj) (hl : w.heap.size ≤ l) (_ : W.heap[l]? = some o) (_ : o.isCells = false) (_ : o.isWalk = false) : KeepTwo B1 B2 W (W.putObj l o') :=
  ⟨World.putObj_heap_other (by omega), World.putObj_heap_other (by omega)⟩

theorem ownsRow_low {w : World} {b b' : Nat} {e : TypeId} {size : Nat} {v : Value} {n : Nat} {xs : List Value} (h : w.ownsRow b e size v n xs) (hb : b' ≤ b) : w.ownsRow b' e size v n xs := by
  obtain ⟨h1, h2⟩ := h
  refine ⟨h1, ?_⟩
  rcases h2 with h2 | ⟨g, cap, cur, hv, hg, r⟩
  · exact .inl h2
  · exact .inr ⟨g, cap, cur, hv, by omega, r⟩
theorem keep_block {W w1 : World} {tmp : Obj} {v : Value} {B j : Nat} {u : Value} (hgrow : (W.alloc tmp).grownBy w1 v.ownBlock) (hj : j < W.heap.size) (hjB : j ≠ B) (hv : ∀ k, v.ownBlock = some k → j ≠ k) :
    (w1.setCell ⟨B, 0, none⟩ u).heap[j]? = W.heap[j]? :=
  (Below.heap_setCell w1 ⟨B, 0, none⟩ u j hjB).trans ((hgrow.block j (by simp; omega) (fun e => hv j e.symm rfl)).trans (Below.heap_alloc W tmp j hj))

set_option maxRecDepth 100000 in
set_option maxHeartbeats 2000000 in
theorem splitImpl_in (F : Fence) (n : Nat) (h3 : F.fn 10) (h4 : F.fn 27) (h5 : F.fn 36) (hro : F.round = none) (hn : 3 ≤ n) (s : ByteArray) (c : UInt8) (hs : s.size ≤ 4000) (w : World) :
    CallsIn F n Try.prog 10 #[.string s, .string ⟨#[c]⟩] w fun e W' => ∃ v, e = .returned (.tuple #[v, .bool true]) ∧ OwnStrs w (splitL c s.data.toList) v W' := by
  have h1 : 1 ≤ n := by omega
  obtain ⟨i0, hi, hz0, hz1, hz2⟩ := info_parts infoS
  have e0 : decide ((4000 : Int) < (s.size : Int)) = false := by simp; omega
  have hcc : (({ data := #[c] } : ByteArray)[0]'(Nat.zero_lt_one)).toNat = c.toNat := rfl
  refine callsIn_of_wp_marks Try.func10 rfl h3 ?_ hro
  simp only [Try.ntmps10, List.size_toArray, List.length_cons, List.length_nil, Nat.reduceAdd, Nat.reduceSub, Array.replicate_succ, Array.replicate_zero, List.push_toArray, List.append_toArray, List.nil_append, List.cons_append]
  gi_wp2_with (gi_at_call 27; refine (piecesOf_in F (n - 1) h4 hro _ _ _).mono ?_; rintro e w' ⟨rfl, rfl⟩)
  clear hcc e0
  have bP := Boxed.new w 26 (.slice none 0 0)
  have b1 := Boxed.new (w.alloc (.cells #[.slice none 0 0] 26)) 9 (.string s)
  have b2 := Boxed.new ((w.alloc (.cells #[.slice none 0 0] 26)).alloc (.cells #[.string s] 9)) 5 (.int .u8 (c.toNat : Int))
  simp only [World.size_alloc] at b1 b2
  have hB0 : Below w.heap.size w (((w.alloc (.cells #[.slice none 0 0] 26)).alloc (.cells #[.string s] 9)).alloc (.cells #[.int .u8 (c.toNat : Int)] 5)) :=
    (((Below.refl _ w).alloc (Nat.le_refl _) _).alloc (by simp) _).alloc (by simp; omega) _
  have hl2 := (splitL_len c s.data.toList).2
  have hsl : s.data.toList.length = s.size := by simp
  refine wpIn_rangeFunc_ownG hro h1 (gf := 36) (lb := #[.pointer (some ⟨w.heap.size + 1, 0, none⟩), .pointer (some ⟨w.heap.size + 1 + 1, 0, none⟩)]) rfl h5 (enters_of Try.func36 (by kernel_rfl) rfl)
    (iter_stops F (n - 1) h5 hro (by omega) (w.heap.size + 1) (w.heap.size + 1 + 1) s c (by omega) _ (by simp) (by simp) (b1.alloc _).cell b2.cell) keepTwo_t (keepTwo_b (by simp) (by simp)) (Below.refl _ _) (fun _ => rfl)
    (fun pre W => (∃ v, Boxed W w.heap.size 26 v ∧ W.ownsRow (w.heap.size + 3) 9 1 v pre.length (pre.map encS) ∧ True) ∧ (Below w.heap.size w W ∧ w.heap.size + 3 ≤ W.heap.size))
    (fun _ _ _ => False)
    (OwnFrom.and (Own.from (holdsRow_own (w.heap.size + 3) w.heap.size 26 9 1 (fun pre : List (List UInt8) => pre.length) (fun pre => pre.map encS) (fun _ _ => True)) _) (OwnFrom.and (ownFrom_below (Nat.le_refl _) (by simp; omega)) (fun _ _ _ _ hs hg _ => Nat.le_trans hs hg.size)))
    (fun _ _ _ _ _ hs _ _ => hs)
    ⟨⟨_, (bP.alloc _).alloc _, World.ownsRow_nil _ _ _ _, trivial⟩, hB0, by simp⟩
    (fun x => { tmps := #[.string s, .string { data := #[c] }, undef, undef, .slice none 0 0, .bool false, .pointer (some ⟨w.heap.size, 0, none⟩), (.string (strOf x)), .string s, .int .i64 s.size, .bool false, .bool false, .string { data := #[c] }, .int .i64 1, .bool false, .bool false, .string s, .string { data := #[c] }, .int .u8 (c.toNat : Int), .func (.func 36) #[] #[.pointer (some ⟨w.heap.size + 1, 0, none⟩), .pointer (some ⟨w.heap.size + 1 + 1, 0, none⟩)], (.string (strOf x)), undef, undef, undef, undef, undef], defers := [] }) ?assign ?body ?done ?stop
  case assign =>
    intro l x W K hK
    gi_wp2
    exact hK
  case body =>
    rintro l pre x W ⟨⟨v, hv, hrow, _⟩, hB, h3⟩ hlt
    have hc := hv.cell
    gi_wp2_with (gi_at_builtin; refine wpListIn_append_own _ rfl _ _ 26 rfl (w.heap.size + 3) 9 i0 (.string ByteArray.empty) 1 16 Try.underlying26 hi hz0 hz1 hz2 rfl (by decide) _ _ _ rfl (hrow.alloc _) ⟨W.heap.size, 0, none⟩ 1 1 [.string (strOf x)] rfl rfl (cell_one_new _ _ _) (fun x hx => by simp at hx; subst hx; rfl) (by unfold maxLen; omega) (by omega) (by have := hB.size; simp; omega) ?_; intro v' w1 hown' hgrow _; obtain ⟨g', cap', rfl⟩ := ownsRow_succ hown'; obtain ⟨hv1, hv2, hr2, hk2, hb2⟩ := hv.appended (by decide) (ownsRow_low (b' := w.heap.size) hrow (by omega)) hB.size (Nat.le_refl _) (ownsRow_low (b' := w.heap.size) hown' (by omega)) hgrow; have hc1 := hv1.cell; have hf1 := hv1.frozen)
    have hr3 := hown'.kept (grownBy_setCell' w1 w.heap.size (.slice (some ⟨g', 0, none⟩) (pre.length + 1) cap')) (.inr fun e => by have := (hown'.lt _ e).1; omega)
    refine ⟨hk2.from _, ⟨keep_block hgrow (by omega) (by omega) (fun k e => by have := (hrow.lt k e).1; omega), keep_block hgrow (by omega) (by omega) (fun k e => by have := (hrow.lt k e).1; omega)⟩, ⟨_, hv2, by simpa [encS] using hr3, trivial⟩, hB.trans hb2, ?_⟩
    have := hgrow.size
    simp at this ⊢
    omega
  case done =>
    rintro D ys W hD rfl ⟨⟨v, hv, hrow, _⟩, hB, h3⟩ hK
    have hc := hv.cell
    gi_wp2
    refine ⟨by simp, .inl ⟨_, _, rfl, run_takeDeferred hK, ?_⟩⟩
    exact ⟨_, results_tmp2 rfl _ _ _, v, rfl, ownStrs_of (ownsRow_low (ownsRow_putObj hrow _ hK rfl) (by omega)) (by simp) (splitL_len c s.data.toList).1 (hB.trans (belowK_b (w := w) (Nat.le_refl _) W D _ _ (by simp at hD; omega) hK rfl rfl))⟩
  case stop =>
    rintro D c' pre W _ _ h _
    exact h.elim
end Go.Proofs.Ytacpacllpjddlaa
