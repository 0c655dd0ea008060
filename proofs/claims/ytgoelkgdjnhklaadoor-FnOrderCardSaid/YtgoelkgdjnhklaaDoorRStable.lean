/- Contract: the library's stable sort of at most 20 numbers. -/
import Derived.Test.YtgoelkgdjnhklaaDoorRCmp
import Derived.Test.YtgoelkgdjnhklaaDoorShelf
import Derived.Test.YtgoelkgdjnhklaaDoorSortMath
namespace Go.Proofs.YtgoelkgdjnhklaaDoor
open Go.RowKit Go.Sort

set_option linter.unusedSimpArgs false in
set_option maxRecDepth 100000 in
set_option maxHeartbeats 8000000 in
theorem stable_lt {α : Type} [Inhabited α] (enc : α → Value) (hO : OneCell enc) (cf : α → α → Int) (g : Nat) (cb : Array Value) (blk cap n : Nat) (d : Array α) (w : World) (hd : d.size = n) (h20 : n < 20)
    (eg : ∀ args w, (callFunc g args).run Tryd.prog w = .ok (.enter g args) w) (hcmp : CmpReads Tryd.prog g cb enc cf blk 0 n w) (hH : Holds enc w blk 0 d) :
    Calls Tryd.prog 123 #[.slice (some ⟨blk, 0, none⟩) n cap, .int .i64 (n : Int), .func (.func g) #[] cb] w fun e w' => e = .returned (.tuple #[]) ∧ ∃ q, w' = (putRow enc w blk 0 (Sort.insertionSort (ltOf cf) d 0 n)).drewN q := by
  subst hd
  have C := Lib.hid (Tryd.insertionSortCmpFunc_one enc hO cf g cb blk 0 cap 0 d.size d w eg hcmp hH (Nat.zero_le _) (Nat.le_refl _) (by omega))
  have e1 : decide ((20 : Int) ≤ (d.size : Int)) = false := by simp; omega
  have e2 : decide ((20 : Int) < (d.size : Int)) = false := by simp; omega
  clear hcmp hH eg
  go_enter Tryd.func123, Tryd.ntmps123
  go_wp2_with fail
  refine wp_loop_rounds 1 ?_
  rw [rounds_succ]
  go_wp2_with fail
  refine C.out.mono ?_
  rintro e w1 ⟨rfl, q, rfl⟩
  go_wp2_with fail
  refine wp_loop_rounds 1 ?_
  rw [rounds_succ]
  go_wp2_with fail
  refine bodyPost_end (results_none rfl _ _ _) rfl ?_
  exact ⟨by simp, q, rfl⟩
set_option linter.unusedSimpArgs false in
set_option maxRecDepth 100000 in
set_option maxHeartbeats 8000000 in
theorem stable_20 {α : Type} [Inhabited α] (enc : α → Value) (hO : OneCell enc) (cf : α → α → Int) (g : Nat) (cb : Array Value) (blk cap : Nat) (d : Array α) (w : World) (hd : d.size = 20)
    (eg : ∀ args w, (callFunc g args).run Tryd.prog w = .ok (.enter g args) w) (hcmp : CmpReads Tryd.prog g cb enc cf blk 0 20 w) (hH : Holds enc w blk 0 d)
    (again : ∀ q, CmpReads Tryd.prog g cb enc cf blk 0 20 ((putRow enc w blk 0 (Sort.insertionSort (ltOf cf) d 0 20)).drewN q) ∧ Holds enc ((putRow enc w blk 0 (Sort.insertionSort (ltOf cf) d 0 20)).drewN q) blk 0 (Sort.insertionSort (ltOf cf) d 0 20)) (hz : (Sort.insertionSort (ltOf cf) d 0 20).size = 20) :
    Calls Tryd.prog 123 #[.slice (some ⟨blk, 0, none⟩) 20 cap, .int .i64 20, .func (.func g) #[] cb] w fun e w' => e = .returned (.tuple #[]) ∧ ∃ q q', w' = (putRow enc ((putRow enc w blk 0 (Sort.insertionSort (ltOf cf) d 0 20)).drewN q) blk 0 (Sort.insertionSort (ltOf cf) d 0 20)).drewN q' := by
  have C := Lib.hid (Tryd.insertionSortCmpFunc_one enc hO cf g cb blk 0 cap 0 20 d w eg (by rw [hd]; exact hcmp) hH (by omega) (by omega) (by omega))
  rw [hd] at C
  obtain ⟨D, hD⟩ : ∃ D, Sort.insertionSort (ltOf cf) d 0 20 = D := ⟨_, rfl⟩
  rw [hD] at C again hz ⊢
  have C2 := Lib.hid (fun q => by
    have h := Tryd.insertionSortCmpFunc_one enc hO cf g cb blk 0 cap 20 20 D ((putRow enc w blk 0 D).drewN q) eg (by rw [hz]; exact (again q).1) (again q).2 (by omega) (by omega) (by omega)
    rw [insertion_none, hz] at h
    exact h)
  clear hcmp hH eg again
  go_enter Tryd.func123, Tryd.ntmps123
  go_wp2_with fail
  refine wp_loop_rounds 2 ?_
  rw [rounds_succ]
  go_wp2_with fail
  refine C.out.mono ?_
  rintro e w1 ⟨rfl, q, rfl⟩
  go_wp2_with fail
  rw [rounds_succ]
  go_wp2_with fail
  refine (C2.out q).mono ?_
  rintro e w1 ⟨rfl, q', rfl⟩
  go_wp2_with fail
  refine wp_loop_rounds 1 ?_
  rw [rounds_succ]
  go_wp2_with fail
  refine bodyPost_end (results_none rfl _ _ _) rfl ?_
  exact ⟨by simp, q, q', rfl⟩
theorem cmp_lt : ∀ x y : List UInt8, decide (Lib.compareBytes x y < 0) = Op.bytesLess x y
  | [], [] => by rfl
  | [], _ :: _ => by simp [Lib.compareBytes, Op.bytesLess]
  | _ :: _, [] => by simp [Lib.compareBytes, Op.bytesLess]
  | a :: x, b :: y => by
    have ih := cmp_lt x y
    rw [Lib.compareBytes, Op.bytesLess]
    by_cases h : a = b
    · subst h
      have h0 : ¬ a < a := UInt8.lt_irrefl a
      rw [if_neg h0, if_neg h0, ih]
      simp [h0]
    · have e2 : (a == b) = false := by simp [h]
      rcases UInt8.lt_or_lt_of_ne h with g | g
      · rw [if_pos g]; simp [g]
      · have g' : ¬ a < b := UInt8.lt_asymm g
        rw [if_neg g', if_pos g, e2]; simp [g']
def encF {n : Nat} (k : Fin n) : Value := .int .i64 ((k.val : Nat) : Int)
theorem encF_one {n : Nat} : OneCell (encF (n := n)) := fun _ => rfl
set_option linter.unusedSimpArgs false in
set_option maxRecDepth 100000 in
set_option maxHeartbeats 8000000 in
theorem cmpReadsT {n : Nat} [Inhabited (Fin n)] (T : Nat → ByteArray) (tb tr c2 blk : Nat) (W : World) (hb : W.cell? ⟨tb, 0, none⟩ = some (.slice (some ⟨tr, 0, none⟩) n c2)) (hT : ∀ p, p < n → W.cell? ⟨tr, p, none⟩ = some (.string (T p))) (hs1 : tb < W.heap.size) (hs2 : tr < W.heap.size) (n1 : tb ≠ blk) (n2 : tr ≠ blk) :
    CmpReads Tryd.prog 68 #[.pointer (some ⟨tb, 0, none⟩)] (encF (n := n)) (fun x y => Lib.compareBytes (T x.val).data.toList (T y.val).data.toList) blk 0 n W := by
  intro m os dk hdk x y
  have f : ∀ (a : Addr) (v : Value), a.block < W.heap.size → a.block ≠ blk → W.cell? a = some v → (sortWorld encF W blk 0 m dk os).cell? a = some v := by
    intro a v hlt hne h
    unfold sortWorld
    rw [cell?_grow _ _ _ (by simpa using hlt), cell?_putRow_other _ _ _ _ _ _ (Or.inl hne)]
    exact h
  exact cmpT tb tr n c2 x.val y.val (T x.val) (T y.val) _ (f ⟨tb, 0, none⟩ _ hs1 n1 hb) (f ⟨tr, x.val, none⟩ _ hs2 n2 (hT _ x.2)) (f ⟨tr, y.val, none⟩ _ hs2 n2 (hT _ y.2)) x.2 y.2 Tryd.strings_Compare
theorem ltOfT {n : Nat} [Inhabited (Fin n)] (T : Nat → ByteArray) (x y : Fin n) : ltOf (fun x y : Fin n => Lib.compareBytes (T x.val).data.toList (T y.val).data.toList) x y = lessT (T x.val) (T y.val) := by
  unfold ltOf lessT
  rw [cmp_lt, ByteArray.toList_eq, ByteArray.toList_eq]
/-- The sorted row: the numbers below n, as the model sorts them. -/
theorem sortedF (T : Nat → ByteArray) (m : Nat) :
    ((Sort.insertionSort (ltOf (fun x y : Fin (m + 1) => Lib.compareBytes (T x.val).data.toList (T y.val).data.toList)) (List.finRange (m + 1)).toArray 0 (m + 1)).toList.map Fin.val) = sortN (fun x y => lessT (T x) (T y)) (m + 1) (m + 1) := by
  have h := insertion_list (lt := ltOf (fun x y : Fin (m + 1) => Lib.compareBytes (T x.val).data.toList (T y.val).data.toList)) (List.finRange (m + 1)) (by simp)
  rw [List.length_finRange] at h
  rw [h]
  have h2 := sortX_map (fun k : Fin (m + 1) => k.val) (ltOf (fun x y : Fin (m + 1) => Lib.compareBytes (T x.val).data.toList (T y.val).data.toList)) (fun x y => lessT (T x) (T y)) (fun a b => (ltOfT T a b).symm) (List.finRange (m + 1)) (m + 1) (by simp)
  rw [h2]
  unfold sortN
  congr 1
  apply List.ext_getElem <;> simp
end Go.Proofs.YtgoelkgdjnhklaaDoor
