/- Contracts: boxes are copied and sorted from above (slices.Clone, slices.SortFunc). -/
import Derived.Test.YthapidnjioindaaC11F
import Derived.Test.YthapidnjioindaaShelf
import Derived.Shelf.SlSortCmp.WholeK
import Derived.Deep.AppendLies
namespace Go.Proofs.Ythapidnjioindaa
open Go.RowKit Go.Sort

instance : Inhabited Bx := ⟨⟨0, 0, 0⟩⟩
theorem bcells_get {X : List Bx} {j : Nat} (hj : j < X.length * 3) : (bcells X)[j]? = some ((bxcell (X.toArray[j / 3]!))[j % 3]!) := by
  have hk : j / 3 < X.length := by omega
  have hX : X[j / 3]? = some (X.toArray[j / 3]!) := by simp [hk]
  obtain ⟨c0, c1, c2⟩ := bcells_at hX
  generalize X.toArray[j / 3]! = F at *
  rcases (show j % 3 = 0 ∨ j % 3 = 1 ∨ j % 3 = 2 by omega) with h | h | h
  · rw [h]; have : j = j / 3 * 3 := by omega
    rw [this, c0]; rfl
  · rw [h]; have e : j = j / 3 * 3 + 1 := by omega
    rw [e, c1]; rfl
  · rw [h]; have e : j = j / 3 * 3 + 2 := by omega
    rw [e, c2]; rfl
set_option maxRecDepth 100000 in
theorem cloneBx (X : List Bx) (b o n c : Nat) (w : World) (h : RdBx w (some ⟨b, o, none⟩) n X) (hn : n ≤ 1000) :
    Calls Try.prog 29 #[.slice (some ⟨b, o, none⟩) n c] w fun e w' => ∃ g cap : Nat, e = .returned (.slice (some ⟨g, 0, none⟩) n cap) ∧ OwnBx w' w.heap.size (.slice (some ⟨g, 0, none⟩) n cap) X ∧ Below w.heap.size w w' := by
  obtain ⟨i0, hi, hz0, hz1, hz2⟩ := info_parts infoBx
  have hXn := h.1
  have own0 := World.ownsRow_lit (e := 25) (size := 3) w #[] 0 (Nat.le_refl _) (by unfold maxLen; omega) rfl
  have hal := (Below.refl _ w).alloc (Nat.le_refl _) (.cells #[] 25 (0, 0))
  have HC := Lib.hid (show ∀ j u, (bcells X)[j]? = some u → (w.alloc (.cells #[] 25 (0, 0))).cell? ((⟨b, o, none⟩ : Addr).add j) = some u from fun j u hu => by
    have hj : j < X.length * 3 := by have := (List.getElem?_eq_some_iff.1 hu).1; rwa [bcells_len] at this
    obtain ⟨b_, o_, e_, hlt, hc⟩ := h.2 (by omega)
    cases e_
    have e : (⟨b, o, none⟩ : Addr).add j = ⟨b, o + j, none⟩ := by unfold Addr.add; split <;> simp_all
    have hX : X[j / 3]? = some (X[j / 3]'(by omega)) := List.getElem?_eq_getElem (by omega)
    obtain ⟨c0, c1, c2⟩ := hc _ _ hX
    obtain ⟨d0, d1, d2⟩ := bcells_at hX
    rw [e, hal.cell (p := ⟨b, o + j, none⟩) hlt]
    rcases (show j % 3 = 0 ∨ j % 3 = 1 ∨ j % 3 = 2 by omega) with h | h | h
    · have q : j = j / 3 * 3 := by omega
      rw [show o + j = o + j / 3 * 3 by omega, c0, ← d0, ← q, hu]
    · have q : j = j / 3 * 3 + 1 := by omega
      rw [show o + j = o + j / 3 * 3 + 1 by omega, c1, ← d1, ← q, hu]
    · have q : j = j / 3 * 3 + 2 := by omega
      rw [show o + j = o + j / 3 * 3 + 2 by omega, c2, ← d2, ← q, hu])
  have HO := Lib.hid own0
  have HB := Lib.hid hal
  have HX := Lib.hid hXn
  have q41 : ∀ (w : World) (a : Option Addr) (n c n' c' : Nat), (binOp .eql 41 (.slice a n c) (.slice none n' c')).run Try.prog w = .ok (.bool a.isNone) w := fun w a n c n' c' => Lib.run_eql_slice_nil w _ _ a n c n' c' Try.underlying41
  clear h own0 hal
  go_enter Try.func29, Try.ntmps29
  go_wp2_with (at_builtin; refine wpList_append_own _ rfl _ _ 41 rfl w.heap.size 25 i0 _ 3 24 Try.underlying41 hi hz0 hz1 hz2 rfl (by decide) _ _ _ rfl HO.out ⟨b, o, none⟩ n c (bcells X) rfl (by rw [bcells_len, HX.out]) HC.out (fun u hu => by obtain ⟨F, _, hF⟩ := List.mem_flatMap.1 hu; unfold bxcell at hF; simp at hF; rcases hF with rfl | rfl | rfl <;> rfl) (by unfold maxLen; omega) (by omega) (by simp) ?_; intro v' w1 hown hgrow hnil)
  have HO1 : OwnBx w1 w.heap.size v' X := by unfold OwnBx; rw [HX.out]; simpa using hown
  obtain ⟨a', cap, rfl⟩ := HO1.slice
  have hsh := HO1.shape
  rcases hsh with ⟨rfl, rfl, rfl⟩ | ⟨g, rfl, _, _⟩
  · have h9 : Value.slice (some ⟨w.heap.size, 0, none⟩) 0 0 = .slice none 0 0 := (hnil.1 rfl).1
    simp at h9
  have HO2 := Lib.hid HO1
  have HB1 := Lib.hid (HB.out.grown hgrow HB.out.size (fun q hq => by cases hq; exact Nat.le_refl _))
  rw [HX.out] at HO2 ⊢
  clear HO1 hown hgrow hnil HO HB HC
  go_ret
  exact ⟨g, cap, rfl, HO2.out, HB1.out⟩

theorem ltY (x y : Bx) : ltOf (fun x y : Bx => Lib.compareInt x.y y.y) x y = decide (x.y < y.y) := by
  unfold ltOf Lib.compareInt
  by_cases h1 : x.y < y.y
  · simp [h1]
  · by_cases h2 : y.y < x.y <;> simp [h1, h2]
theorem swoY : SWO (ltOf fun x y : Bx => Lib.compareInt x.y y.y) where
  irrefl x := by rw [ltY]; simp
  trans x y z h1 h2 := by rw [ltY] at *; simp at *; omega
  ntrans x y z h1 h2 := by rw [ltY] at *; simp at *; omega
theorem closureY (x y : Bx) (W : World) : Calls Try.prog 31 #[.agg (bxcell x).toArray, .agg (bxcell y).toArray] W fun e w' => e = .returned (.int .i64 (Lib.compareInt x.y y.y)) ∧ ∃ q os', w' = grow (W.drewN q) os' := by
  have hcon := fun W' => Try.cmp_Compare_int x.y y.y W'
  generalize Lib.compareInt x.y y.y = r at hcon ⊢
  obtain ⟨x0, x1, x2⟩ := x
  obtain ⟨y0, y1, y2⟩ := y
  show Calls Try.prog 31 #[.agg #[.int .i64 x0, .int .i64 x1, .int .i64 x2], .agg #[.int .i64 y0, .int .i64 y1, .int .i64 y2]] W _
  go_enter Try.func31, Try.ntmps31
  go_wp2_with (go_at_call 32; refine (hcon _).mono ?_; rintro e w' ⟨rfl, rfl⟩)
  go_ret
  exact ⟨rfl, 0, _, by rw [alloc_eq_grow, alloc_eq_grow, grow_grow]; rfl⟩
theorem flat_cells (X : List Bx) (j : Nat) (hj : j < X.length * 3) : (bcells X)[j]? = some ((flatK bxcell 3 X.toArray)[j]!) := by
  rw [get_flatK _ _ _ _ (by simpa using hj), bcells_get hj]
/-- A row of boxes is sorted from above: what is behind is as it was, but for the row. -/
theorem sortBx_any (X : List Bx) (g cap B : Nat) (w : World) (h : OwnBx w B (.slice (some ⟨g, 0, none⟩) X.length cap) X) (hlen : X.length ≤ 1000) :
    Calls Try.prog 30 #[.slice (some ⟨g, 0, none⟩) X.length cap, .func (.func 31) #[] #[]] w fun e w' => e = .returned (.tuple #[]) ∧ ∃ Y : List Bx, Y.Perm X ∧ (∀ (i j : Nat) (a b : Bx), i < j → Y[i]? = some a → Y[j]? = some b → a.y ≤ b.y) ∧ RdBx w' (some ⟨g, 0, none⟩) X.length Y ∧ Below B w w' := by
  obtain ⟨hB, hg⟩ := World.ownsRow.lt h g rfl
  have hH : HoldsK bxcell 3 w g 0 X.toArray := fun j hj => by
    have hj' : j < X.length * 3 := by simpa using hj
    refine ⟨?_, ?_⟩
    · rw [Nat.zero_add, World.ownsRow.cellAt h j hj', flat_cells X j hj']; rfl
    · rw [Nat.zero_add]; exact World.ownsRow.frozenAt h j
  have eg : ∀ args w, (callFunc 31 args).run Try.prog w = .ok (.enter 31 args) w := enters_of Try.func31 (by kernel_rfl) rfl
  have hcon := AnyQ.slices_SortFunc Try.sortBx 3 Try.isAgg25 Try.sizeOf25 bxcell (fun _ => rfl) (fun x v hv => by simp [bxcell] at hv; rcases hv with rfl | rfl | rfl <;> rfl) (fun x y => Lib.compareInt x.y y.y) swoY 31 #[] g 0 cap X.toArray w eg (fun _ _ _ _ x y => closureY x y _) hH hg (by simp; omega)
  rw [List.size_toArray] at hcon
  refine hcon.mono ?_
  rintro e w' ⟨rfl, d', n, os, hp, hs, rfl⟩
  obtain ⟨hsz, _, hperm⟩ := hp
  have hsz' : d'.size = X.length := by simpa using hsz
  refine ⟨rfl, d'.toList, ?_, ?_, ?_, ?_⟩
  · have e1 : (d'.extract 0 X.length).toList = d'.toList := by simp [← hsz']
    have e2 : (X.toArray.extract 0 X.length).toList = X := by simp
    rw [e1, e2] at hperm
    exact hperm
  · intro i j a b hij ha hb
    have hj : j < d'.size := by simpa using (List.getElem?_eq_some_iff.1 hb).1
    have := hs i j (Nat.zero_le _) hij (by omega)
    rw [ltY, decide_eq_false_iff_not] at this
    have ea : d'[i]! = a := by
      rw [getElem!_pos d' i (by omega)]
      have := (List.getElem?_eq_some_iff.1 ha).2
      simpa using this
    have eb : d'[j]! = b := by
      rw [getElem!_pos d' j hj]
      have := (List.getElem?_eq_some_iff.1 hb).2
      simpa using this
    rw [ea, eb] at this
    omega
  · have hH' := holdsK_sortWorldK_c bxcell 3 w g 0 X.toArray d' n os hH hg (by simpa using hsz)
    refine ⟨by simpa using hsz', fun _ => ⟨g, 0, rfl, Nat.lt_of_lt_of_le hg (size_sortWorldK_c bxcell 3 w g 0 n d' os), fun k F hk => ?_⟩⟩
    have hkl : k < d'.size := by simpa using (List.getElem?_eq_some_iff.1 hk).1
    have eF : d'[k]! = F := by
      rw [getElem!_pos d' k hkl]
      have := (List.getElem?_eq_some_iff.1 hk).2
      simpa using this
    have q := fun c (hc : c < 3) => (HoldsK.cell hH' hkl hc).1
    rw [eF] at q
    exact ⟨q 0 (by omega), q 1 (by omega), q 2 (by omega)⟩
  · refine ⟨rfl, rfl, rfl, size_sortWorldK_c bxcell 3 w g 0 n d' os, fun k hk => ?_⟩
    have hne : g ≠ k := by omega
    have hks : k < w.heap.size := by omega
    show (((putRowK bxcell 3 (Sort.ahead w n) g 0 d').heap ++ os))[k]? = _
    rw [Array.getElem?_append_left (by simp [putRowK]; exact hks)]
    show (putRow id (Sort.ahead w n) g 0 (flatK bxcell 3 d')).heap[k]? = _
    simp [putRow, mapBlock, Array.getElem?_modify, hne, Sort.ahead]
end Go.Proofs.Ythapidnjioindaa
